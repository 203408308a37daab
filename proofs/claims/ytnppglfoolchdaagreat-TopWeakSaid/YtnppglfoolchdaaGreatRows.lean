/-
  No cell of these rows narrows 'for every input' (looked for: loops, veiled, ifaces, maps, wideKeys, modest, calm, conditions, laid).
  DERIVED. THE GIVEN ROWS OF THIS SEAT. 4 by the template 'for every input the law returns true; each argument reads behind the call as it read before'; 0 by the template 'total and deterministic' (their statements: YtnppglfoolchdaaGreatTotals.lean).
  GIVEN WITH THE SEED: the statements are not yours to turn. If you find one false, say at which input.
  Laid BY PROGRAM, IN A SANDBOX (cutbox-rows.mjs): the forced cells as the released guide's own fill.sh prints them over the translation b8ad9c29a8f0bd6e… (all of the seat's roots in one cut). By AI agents, Wed Nov 11 2026. No macro, syntax, notation, axiom, sorry.
-/
import Derived.Test.YtnppglfoolchdaaGreatChecked
import GoSem.Claim
import GoSem.ClaimJoined
import GoSem.ClaimMapViews
import Derived.JoinedTies
import Derived.KernelRfl
namespace Go.Proofs.YtnppglfoolchdaaGreat
/- THE CELL 'sum', in the pinned program and in every row, IS THE sha256 OF THE DUMP (.gsa) THAT YtnppglfoolchdaaGreatProg.lean LOADS. Nothing in Lean hashes anything: it is a label: what it is worth is what the hold of that sum in a sandbox is worth. -/
noncomputable def Tryz.pinned : Pinned := { name := "ytnppglfoolchdaagreat", sum := "b8ad9c29a8f0bd6e8e60ea4754468955e95c740258edbe4dfcfe5a546ef56d72", checked := Tryz.checked }
namespace Rows
def none {H : Type} : Left H := { results := [], args := [] }

/-- 'ferrulelaw13.CountsForces': WHATEVER THE INPUT: true; the input reads as it did. -/
def countsForcesSpec : ChangeSpec := { name := "countsForces", fn := fun _ => fun
  | [d1, d2] => { results := [.lit (.bool true)], args := [d1, d2] }
  | _ => none }
def countsForcesRow : OpenClaim := { program := "ytnppglfoolchdaagreat", sum := "b8ad9c29a8f0bd6e8e60ea4754468955e95c740258edbe4dfcfe5a546ef56d72", func := "ferrule/ferrulelaw13.CountsForces", spec := "countsForces", unfollowed := true, recurses := true, plainKeys := false, apart := false }
def CountsForcesSaid : Prop := countsForcesRow.holds Tryz.pinned (OpenSpec.ofChange countsForcesSpec)

/-- ITS FALSE NEIGHBOUR: 'it returns false'. Refute it at one input. -/
def countsForcesWrong : ChangeSpec := { name := "countsForces", fn := fun _ => fun
  | [d1, d2] => { results := [.lit (.bool false)], args := [d1, d2] }
  | _ => none }
def CountsForcesWrongFalsely : Prop := countsForcesRow.holds Tryz.pinned (OpenSpec.ofChange countsForcesWrong)

/-- 'ferrulelaw13.CountsHarm': WHATEVER THE INPUT: true; the input reads as it did. -/
def countsHarmSpec : ChangeSpec := { name := "countsHarm", fn := fun _ => fun
  | [d] => { results := [.lit (.bool true)], args := [d] }
  | _ => none }
def countsHarmRow : OpenClaim := { program := "ytnppglfoolchdaagreat", sum := "b8ad9c29a8f0bd6e8e60ea4754468955e95c740258edbe4dfcfe5a546ef56d72", func := "ferrule/ferrulelaw13.CountsHarm", spec := "countsHarm", unfollowed := true, recurses := true, plainKeys := false, apart := false }
def CountsHarmSaid : Prop := countsHarmRow.holds Tryz.pinned (OpenSpec.ofChange countsHarmSpec)

/-- ITS FALSE NEIGHBOUR: 'it returns false'. Refute it at one input. -/
def countsHarmWrong : ChangeSpec := { name := "countsHarm", fn := fun _ => fun
  | [d] => { results := [.lit (.bool false)], args := [d] }
  | _ => none }
def CountsHarmWrongFalsely : Prop := countsHarmRow.holds Tryz.pinned (OpenSpec.ofChange countsHarmWrong)

/-- 'ferrulelaw13.CountsTrue': WHATEVER THE INPUT: true; the input reads as it did. -/
def countsTrueSpec : ChangeSpec := { name := "countsTrue", fn := fun _ => fun
  | [d1, d2, d3] => { results := [.lit (.bool true)], args := [d1, d2, d3] }
  | _ => none }
def countsTrueRow : OpenClaim := { program := "ytnppglfoolchdaagreat", sum := "b8ad9c29a8f0bd6e8e60ea4754468955e95c740258edbe4dfcfe5a546ef56d72", func := "ferrule/ferrulelaw13.CountsTrue", spec := "countsTrue", unfollowed := true, recurses := true, plainKeys := false, apart := false }
def CountsTrueSaid : Prop := countsTrueRow.holds Tryz.pinned (OpenSpec.ofChange countsTrueSpec)

/-- ITS FALSE NEIGHBOUR: 'it returns false'. Refute it at one input. -/
def countsTrueWrong : ChangeSpec := { name := "countsTrue", fn := fun _ => fun
  | [d1, d2, d3] => { results := [.lit (.bool false)], args := [d1, d2, d3] }
  | _ => none }
def CountsTrueWrongFalsely : Prop := countsTrueRow.holds Tryz.pinned (OpenSpec.ofChange countsTrueWrong)

/-- 'ferruletop.TopWeak': WHATEVER THE INPUT: true; the input reads as it did. -/
def topWeakSpec : ChangeSpec := { name := "topWeak", fn := fun _ => fun
  | [d1, d2] => { results := [.lit (.bool true)], args := [d1, d2] }
  | _ => none }
def topWeakRow : OpenClaim := { program := "ytnppglfoolchdaagreat", sum := "b8ad9c29a8f0bd6e8e60ea4754468955e95c740258edbe4dfcfe5a546ef56d72", func := "ferrule/ferruletop.TopWeak", spec := "topWeak", unfollowed := true, recurses := true, plainKeys := false, apart := false }
def TopWeakSaid : Prop := topWeakRow.holds Tryz.pinned (OpenSpec.ofChange topWeakSpec)

/-- ITS FALSE NEIGHBOUR: 'it returns false'. Refute it at one input. -/
def topWeakWrong : ChangeSpec := { name := "topWeak", fn := fun _ => fun
  | [d1, d2] => { results := [.lit (.bool false)], args := [d1, d2] }
  | _ => none }
def TopWeakWrongFalsely : Prop := topWeakRow.holds Tryz.pinned (OpenSpec.ofChange topWeakWrong)

/- THE SECOND FORM. 'bulk': how many values and letters a reading holds, each counted each time it is reached (what is shared counts as often as it is met; a slice's spare places count too). A statement '..UptoSaid' is the law's where the arguments, and the package variables that the reading takes, are together of bulk at most 1048576: NARROWER than '..Said'. Prove '..Said' where nothing that the law and all that it calls make is longer than what came in: it says more and counts as full. Else prove '..UptoSaid'. A law counts once. -/
mutual
def uptoBulk {H : Type} : DataW H → Nat
  | .lit (.string bytes) => bytes.length + 1
  | .lit _ => 1
  | .nil => 1
  | .ptr d => uptoBulk d + 1
  | .slice elems spare => uptoBulkAll elems + uptoBulkAll spare + 1
  | .agg parts => uptoBulkAll parts + 1
  | .iface _ d => uptoBulk d + 1
  | .map entries => uptoBulkEntries entries + 1
  | .held _ => 1
def uptoBulkAll {H : Type} : List (DataW H) → Nat
  | [] => 0
  | d :: r => uptoBulk d + uptoBulkAll r
def uptoBulkEntries {H : Type} : List (Lit × DataW H) → Nat
  | [] => 0
  | x :: r => uptoBulkEntry x + uptoBulkEntries r
def uptoBulkEntry {H : Type} : Lit × DataW H → Nat
  | (.string bytes, d) => bytes.length + uptoBulk d + 1
  | (_, d) => uptoBulk d + 1
 end
def uptoSmall : (H : Type) → List (DataW H) → Bool := fun _ ds => decide (uptoBulkAll ds ≤ 1048576)
def OpenSpec.upto (s : _root_.Go.ChangeSpec) : _root_.Go.OpenSpec := { _root_.Go.OpenSpec.ofChange s with cond := some uptoSmall }

/-- 'ferrulelaw13.CountsForces', WHERE WHAT IT READS IS OF BULK AT MOST 1048576: true; the input reads as it did. -/
def countsForcesUptoRow : OpenClaim := { program := "ytnppglfoolchdaagreat", sum := "b8ad9c29a8f0bd6e8e60ea4754468955e95c740258edbe4dfcfe5a546ef56d72", func := "ferrule/ferrulelaw13.CountsForces", spec := "countsForces", unfollowed := true, recurses := true, plainKeys := false, apart := false, narrowed := true }
def CountsForcesUptoSaid : Prop := countsForcesUptoRow.holds Tryz.pinned (OpenSpec.upto countsForcesSpec)

/-- 'ferrulelaw13.CountsHarm', WHERE WHAT IT READS IS OF BULK AT MOST 1048576: true; the input reads as it did. -/
def countsHarmUptoRow : OpenClaim := { program := "ytnppglfoolchdaagreat", sum := "b8ad9c29a8f0bd6e8e60ea4754468955e95c740258edbe4dfcfe5a546ef56d72", func := "ferrule/ferrulelaw13.CountsHarm", spec := "countsHarm", unfollowed := true, recurses := true, plainKeys := false, apart := false, narrowed := true }
def CountsHarmUptoSaid : Prop := countsHarmUptoRow.holds Tryz.pinned (OpenSpec.upto countsHarmSpec)

/-- 'ferrulelaw13.CountsTrue', WHERE WHAT IT READS IS OF BULK AT MOST 1048576: true; the input reads as it did. -/
def countsTrueUptoRow : OpenClaim := { program := "ytnppglfoolchdaagreat", sum := "b8ad9c29a8f0bd6e8e60ea4754468955e95c740258edbe4dfcfe5a546ef56d72", func := "ferrule/ferrulelaw13.CountsTrue", spec := "countsTrue", unfollowed := true, recurses := true, plainKeys := false, apart := false, narrowed := true }
def CountsTrueUptoSaid : Prop := countsTrueUptoRow.holds Tryz.pinned (OpenSpec.upto countsTrueSpec)

/-- 'ferruletop.TopWeak', WHERE WHAT IT READS IS OF BULK AT MOST 1048576: true; the input reads as it did. -/
def topWeakUptoRow : OpenClaim := { program := "ytnppglfoolchdaagreat", sum := "b8ad9c29a8f0bd6e8e60ea4754468955e95c740258edbe4dfcfe5a546ef56d72", func := "ferrule/ferruletop.TopWeak", spec := "topWeak", unfollowed := true, recurses := true, plainKeys := false, apart := false, narrowed := true }
def TopWeakUptoSaid : Prop := topWeakUptoRow.holds Tryz.pinned (OpenSpec.upto topWeakSpec)

end Rows
end Go.Proofs.YtnppglfoolchdaaGreat
