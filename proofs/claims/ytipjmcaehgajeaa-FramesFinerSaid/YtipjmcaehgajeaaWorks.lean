/- A call of the function works, which takes no arguments, answers true: the program is run on its own reading. -/
import Derived.Test.YtipjmcaehgajeaaFns2
set_option linter.unusedSimpArgs false
set_option linter.unusedVariables false
set_option linter.unusedSectionVars false
namespace Go.Proofs
open Go.Eng
attribute [local irreducible] Go.Eng.brB Go.Eng.need Go.Eng.wrE Go.Eng.iaE Go.Eng.slE Go.Eng.apE Go.Eng.CallZ Go.Eng.CallE Go.Eng.VCallE Go.Eng.YldE Go.Eng.GoC Go.Eng.MeetsE Go.Eng.FnA Go.Eng.FnV Go.Eng.ItA
set_option maxRecDepth 1000000
def sp78 : List AV → Option AV
  | [.int .i64 a, .int .i64 t, .ipt [.int .i64 d], .ipt [.int .i64 x, .int .i64 ed], .ipt [.int .i64 y, .int .i64 ed']] =>
    if ((0 ≤ d ∧ d ≤ 6000) ∧ (0 ≤ a ∧ a ≤ 2000) ∧ (0 ≤ t ∧ t ≤ 2000)) ∧ okPart (ed - x) ed ∧ y = 0 - x ∧ ed' = ed then some (.bool (bind d a t (ed - x) ed)) else none
  | _ => none
def sp1 : FTab := fun f args => match Nat.beq f 78 with
  | true => sp78 args
  | false => none
theorem sp1_ok : ∀ f args r, sp1 f args = some r → bodied Try.prog f = true ∧ FnA Try.prog f args (· = r) := by
  intro f args r h
  unfold sp1 at h
  split at h
  · rename_i hf
    rw [Nat.beq_eq] at hf
    subst hf
    unfold sp78 at h
    split at h
    · split at h
      · rename_i hc
        obtain ⟨⟨h1, h2, h3⟩, h4, rfl, rfl⟩ := hc
        cases h
        refine ⟨bd78, ?_⟩
        have := k78 _ _ _ _ _ h1 h2 h3 h4
        simpa [Int.sub_sub_self] using this
      · cases h
    · cases h
  · cases h
theorem k12 : FnA Try.prog 12 [] (· = .bool true) := run sp1_ok 100000 50 (by kernel_rfl)
end Go.Proofs
