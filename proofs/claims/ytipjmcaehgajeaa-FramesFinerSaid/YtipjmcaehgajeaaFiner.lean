/- FramesFiner answers true and leaves its arguments as they were, for every frame, every finer work of a section and every section and position, with no condition. -/
import Derived.Test.YtipjmcaehgajeaaOpen
import Derived.Test.YtipjmcaehgajeaaFns4
namespace Go.Proofs.Ytipjmcaehgajeaa
open Go.ChangeShapes Go.WideShapes Go.ChangeAt Go.RowKit Go.Eng Go.Joins
theorem i5_fits {v : AV} (h : Sh.fits (.agg [.int .i64, .int .i64, .int .i64, .int .i64, .int .i64]) v) : ∃ a b c d e : Int, v = .agg [.int .i64 a, .int .i64 b, .int .i64 c, .int .i64 d, .int .i64 e] := by
  simp only [Sh.fitsL, Sh.fits] at h
  obtain ⟨_, rfl, _, _, rfl, ⟨a, rfl, _⟩, _, _, rfl, ⟨b, rfl, _⟩, _, _, rfl, ⟨c, rfl, _⟩, _, _, rfl, ⟨d, rfl, _⟩, _, _, rfl, ⟨e, rfl, _⟩, rfl⟩ := h
  exact ⟨a, b, c, d, e, rfl⟩
theorem finer_main (avs : List AV) (h : Sh.fitsL [frmSh, .agg [.int .i64, .int .i64, .int .i64, .int .i64, .int .i64], i2Sh] avs) : FnA Try.prog 7 avs (· = .bool true) := by
  simp only [Sh.fitsL] at h
  obtain ⟨v, _, rfl, h1, u, _, rfl, h2, x, _, rfl, h3, rfl⟩ := h
  obtain ⟨f, rfl, _⟩ := frm_fits h1
  obtain ⟨a, b, c, d, e, rfl⟩ := i5_fits h2
  obtain ⟨i, r, rfl⟩ := i2_fits h3
  exact k7 f a b c d e i r k12

set_option maxRecDepth 100000 in
theorem framesFiner_lifted (os : Os) (started : os.Started) (H : Type) (enc : TypeId × Value → H) :
    ReturnsInHanded {} Try.checked os 7 .any (Rows.framesFinerSpec.pre6 enc Try.prog Try.f7 Rows.framesFinerRow.domain false) (Rows.framesFinerSpec.post enc Try.prog Try.f7 false true false false) :=
  returnsInHanded_of_change (C := Try.checked) Try.own started (by kernel_rfl) Try.func7
    (ChangeSpec.witness6 (enc := enc) (C := Try.checked) false ⟨#[], #[.agg #[.slice none 0 0, .int .i64 0, .int .i64 0, .int .i64 0, .int .i64 0, .int .i64 0, .int .i64 0], .agg #[.int .i64 0, .int .i64 0, .int .i64 0, .int .i64 0, .int .i64 0], .agg #[.int .i64 0, .int .i64 0]], []⟩ 12 (by kernel_rfl) (by kernel_rfl) (by kernel_rfl) (by kernel_rfl))
    (fun W base args ds gs before hval hW _ _ => lift_true (C := Try.checked) (s := Rows.framesFinerSpec) (ss := [frmSh, .agg [.int .i64, .int .i64, .int .i64, .int .i64, .int .i64], i2Sh]) Try.laidOut rfl rfl (by kernel_rfl) (by kernel_rfl) (by kernel_rfl)
        (fun ds hds => by
          match ds, hds with
          | [d1, d2, d3], _ => exact ⟨rfl, rfl, rfl⟩) finer_main W base args ds gs before hval hW)

set_option maxRecDepth 100000 in
theorem framesFiner_holds : Rows.FramesFinerSaid :=
  OpenClaim.holds_of_wide 7 Try.f7 rfl rfl rfl rfl rfl rfl rfl ⟨rfl, rfl, rfl, rfl, rfl⟩ rfl rfl rfl rfl rfl (by kernel_rfl) Try.func7 (by kernel_rfl)
    (of_decide_eq_true (by kernel_rfl)) (by unfold Func.isWrapper; first | (rw [if_pos (by decide +kernel)]; kernel_rfl) | (rw [if_neg (by decide +kernel)]; exact ⟨rfl, rfl⟩))
    (fun os started H enc _ => framesFiner_lifted os started H enc)
#print axioms framesFiner_holds
end Go.Proofs.Ytipjmcaehgajeaa
