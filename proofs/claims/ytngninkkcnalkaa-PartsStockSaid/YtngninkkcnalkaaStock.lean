/- PartsStock answers true and leaves its arguments as they were, for every workshop, every stock, all jobs and every change, with no condition. -/
import Derived.Test.YtngninkkcnalkaaFOpen
import Derived.Test.YtngninkkcnalkaaFFns4
namespace Go.Proofs.Ytngninkkcnalkaa
open Go.ChangeShapes Go.WideShapes Go.ChangeAt Go.RowKit Go.Eng Go.Joins
def jobSh : List Sh := [.int .i64, .int .i64]
def taskSh : Sh := .agg [.sl i1, .sl jobSh]
theorem job_fits (l : List AV) (h : Sh.fitsL jobSh l) : ∃ s : Job, l = s.av := by
  simp only [jobSh, Sh.fitsL, Sh.fits] at h
  obtain ⟨_, _, rfl, ⟨a, rfl, _⟩, _, _, rfl, ⟨b, rfl, _⟩, rfl⟩ := h
  exact ⟨⟨a, b⟩, rfl⟩
theorem task_fits {v : AV} (h : Sh.fits taskSh v) : ∃ (st : List Int) (js : List Job), v = .agg [.isl (st.map jAV), .isl (js.map Job.av)] := by
  simp only [taskSh, Sh.fitsL, Sh.fits] at h
  obtain ⟨_, rfl, _, _, rfl, ⟨r1, rfl, _, h1⟩, _, _, rfl, ⟨r2, rfl, _, h2⟩, rfl⟩ := h
  obtain ⟨st, rfl⟩ := rows_fits jAV one_fits h1
  obtain ⟨js, rfl⟩ := rows_fits Job.av job_fits h2
  exact ⟨st, js, rfl⟩
def changeSh : Sh := .agg [.int .i64, .int .i64, .int .i64, .int .i64]
theorem pstock_main (avs : List AV) (h : Sh.fitsL [shopSh, taskSh, changeSh] avs) : FnA Try.prog 12 avs (· = .bool true) := by
  simp only [Sh.fitsL] at h
  obtain ⟨v, _, rfl, h1, u, _, rfl, h2, x, _, rfl, h3, rfl⟩ := h
  obtain ⟨w, rfl⟩ := shop_fits h1
  obtain ⟨st, js, rfl⟩ := task_fits h2
  simp only [changeSh, Sh.fitsL, Sh.fits] at h3
  obtain ⟨_, rfl, _, _, rfl, ⟨a, rfl, _⟩, _, _, rfl, ⟨b, rfl, _⟩, _, _, rfl, ⟨c, rfl, _⟩, _, _, rfl, ⟨d, rfl, _⟩, rfl⟩ := h3
  exact k12 w st js a b c d

set_option maxRecDepth 100000 in
theorem partsStock_lifted (os : Os) (started : os.Started) (H : Type) (enc : TypeId × Value → H) :
    ReturnsInHanded {} Try.checked os 12 .any (Rows.partsStockSpec.pre6 enc Try.prog Try.f12 Rows.partsStockRow.domain false) (Rows.partsStockSpec.post enc Try.prog Try.f12 false true false false) :=
  returnsInHanded_of_change (C := Try.checked) Try.own started (by kernel_rfl) Try.func12
    (ChangeSpec.witness6 (enc := enc) (C := Try.checked) false ⟨#[], #[.agg #[.slice none 0 0, .slice none 0 0, .int .i64 0, .slice none 0 0], .agg #[.slice none 0 0, .slice none 0 0], .agg #[.int .i64 0, .int .i64 0, .int .i64 0, .int .i64 0]], []⟩ 12 (by kernel_rfl) (by kernel_rfl) (by kernel_rfl) (by kernel_rfl))
    (fun W base args ds gs before hval hW _ _ => lift_true (C := Try.checked) (s := Rows.partsStockSpec) (ss := [shopSh, taskSh, changeSh]) Try.laidOut rfl rfl (by kernel_rfl) (by kernel_rfl) (by kernel_rfl)
        (fun ds hds => by
          match ds, hds with
          | [d1, d2, d3], _ => exact ⟨rfl, rfl, rfl⟩) pstock_main W base args ds gs before hval hW)

set_option maxRecDepth 100000 in
theorem partsStock_holds : Rows.PartsStockSaid :=
  OpenClaim.holds_of_wide 12 Try.f12 rfl rfl rfl rfl rfl rfl rfl ⟨rfl, rfl, rfl, rfl, rfl⟩ rfl rfl rfl rfl rfl (by kernel_rfl) Try.func12 (by kernel_rfl)
    (of_decide_eq_true (by kernel_rfl)) (by unfold Func.isWrapper; first | (rw [if_pos (by decide +kernel)]; kernel_rfl) | (rw [if_neg (by decide +kernel)]; exact ⟨rfl, rfl⟩))
    (fun os started H enc _ => partsStock_lifted os started H enc)
#print axioms partsStock_holds
end Go.Proofs.Ytngninkkcnalkaa
