/- PartsTrue answers true and leaves its arguments as they were, for every workshop, every list of lengths, every list of spares and every slot, with no condition. -/
import Derived.Test.YtngninkkcnalkaaOpen
import Derived.Test.YtngninkkcnalkaaFns4
namespace Go.Proofs.Ytngninkkcnalkaa
open Go.ChangeShapes Go.WideShapes Go.ChangeAt Go.RowKit Go.Eng Go.Joins
def truthSh : Sh := .agg [.sl i1, .sl i1]
theorem ptrue_main (avs : List AV) (h : Sh.fitsL [shopSh, truthSh, askSh] avs) : FnA Try.prog 7 avs (· = .bool true) := by
  simp only [Sh.fitsL] at h
  obtain ⟨v, _, rfl, h1, u, _, rfl, h2, x, _, rfl, h3, rfl⟩ := h
  obtain ⟨w, rfl⟩ := shop_fits h1
  obtain ⟨a, b, c, rfl⟩ := ask_fits h3
  simp only [truthSh, Sh.fitsL, Sh.fits] at h2
  obtain ⟨_, rfl, _, _, rfl, ⟨r1, rfl, _, q1⟩, _, _, rfl, ⟨r2, rfl, _, q2⟩, rfl⟩ := h2
  obtain ⟨T, rfl⟩ := rows_fits jAV one_fits q1
  obtain ⟨l, rfl⟩ := rows_fits jAV one_fits q2
  exact k7 w T l a b c

set_option maxRecDepth 100000 in
theorem partsTrue_lifted (os : Os) (started : os.Started) (H : Type) (enc : TypeId × Value → H) :
    ReturnsInHanded {} Try.checked os 7 .any (Rows.partsTrueSpec.pre6 enc Try.prog Try.f7 Rows.partsTrueRow.domain false) (Rows.partsTrueSpec.post enc Try.prog Try.f7 false true false false) :=
  returnsInHanded_of_change (C := Try.checked) Try.own started (by kernel_rfl) Try.func7
    (ChangeSpec.witness6 (enc := enc) (C := Try.checked) false ⟨#[], #[.agg #[.slice none 0 0, .slice none 0 0, .int .i64 0, .slice none 0 0], .agg #[.slice none 0 0, .slice none 0 0], .agg #[.int .i64 0, .int .i64 0, .int .i64 0]], []⟩ 12 (by kernel_rfl) (by kernel_rfl) (by kernel_rfl) (by kernel_rfl))
    (fun W base args ds gs before hval hW _ _ => lift_true (C := Try.checked) (s := Rows.partsTrueSpec) (ss := [shopSh, truthSh, askSh]) Try.laidOut rfl rfl (by kernel_rfl) (by kernel_rfl) (by kernel_rfl)
        (fun ds hds => by
          match ds, hds with
          | [d1, d2, d3], _ => exact ⟨rfl, rfl, rfl⟩) ptrue_main W base args ds gs before hval hW)

set_option maxRecDepth 100000 in
theorem partsTrue_holds : Rows.PartsTrueSaid :=
  OpenClaim.holds_of_wide 7 Try.f7 rfl rfl rfl rfl rfl rfl rfl ⟨rfl, rfl, rfl, rfl, rfl⟩ rfl rfl rfl rfl rfl (by kernel_rfl) Try.func7 (by kernel_rfl)
    (of_decide_eq_true (by kernel_rfl)) (by unfold Func.isWrapper; first | (rw [if_pos (by decide +kernel)]; kernel_rfl) | (rw [if_neg (by decide +kernel)]; exact ⟨rfl, rfl⟩))
    (fun os started H enc _ => partsTrue_lifted os started H enc)
#print axioms partsTrue_holds
end Go.Proofs.Ytngninkkcnalkaa
