/-
  No cell of these rows narrows 'for every input' (looked for: loops, veiled, ifaces, maps, wideKeys, modest, calm, conditions, laid).
  DERIVED. THE GIVEN ROWS OF THIS SEAT. 12 by the template 'for every input the law returns true; each argument reads behind the call as it read before'; 0 by the template 'total and deterministic' (their statements: YtpiofeaafnldfaaTotals.lean).
  GIVEN WITH THE SEED: the statements are not yours to turn. If you find one false, say at which input.
  Laid BY PROGRAM, IN A SANDBOX (cutbox-rows.mjs): the forced cells as the released guide's own fill.sh prints them over the translation 8bef11abad9ca6b6… (all of the seat's roots in one cut). By AI agents, Wed Nov 11 2026. No macro, syntax, notation, axiom, sorry.
-/
import Derived.Test.YtpiofeaafnldfaaChecked
import GoSem.Claim
import GoSem.ClaimJoined
import GoSem.ClaimMapViews
import Derived.JoinedTies
import Derived.KernelRfl
namespace Go.Proofs.Ytpiofeaafnldfaa
/- THE CELL 'sum', in the pinned program and in every row, IS THE sha256 OF THE DUMP (.gsa) THAT YtpiofeaafnldfaaProg.lean LOADS. Nothing in Lean hashes anything: it is a label: what it is worth is what the hold of that sum in a sandbox is worth. -/
noncomputable def Try.pinned : Pinned := { name := "ytpiofeaafnldfaa", sum := "8bef11abad9ca6b6b50aa3f70ccd456da3db9d7d3cb7acfa5495827e6a4d2b53", checked := Try.checked }
namespace Rows
def none {H : Type} : Left H := { results := [], args := [] }

/-- 'ferrulelaw02.ClothTrue': WHATEVER THE INPUT: true; the input reads as it did. -/
def clothTrueSpec : ChangeSpec := { name := "clothTrue", fn := fun _ => fun
  | [d1, d2, d3] => { results := [.lit (.bool true)], args := [d1, d2, d3] }
  | _ => none }
def clothTrueRow : OpenClaim := { program := "ytpiofeaafnldfaa", sum := "8bef11abad9ca6b6b50aa3f70ccd456da3db9d7d3cb7acfa5495827e6a4d2b53", func := "ferrule/ferrulelaw02.ClothTrue", spec := "clothTrue", unfollowed := true, recurses := true, apart := false }
def ClothTrueSaid : Prop := clothTrueRow.holds Try.pinned (OpenSpec.ofChange clothTrueSpec)

/-- ITS FALSE NEIGHBOUR: 'it returns false'. Refute it at one input. -/
def clothTrueWrong : ChangeSpec := { name := "clothTrue", fn := fun _ => fun
  | [d1, d2, d3] => { results := [.lit (.bool false)], args := [d1, d2, d3] }
  | _ => none }
def ClothTrueWrongFalsely : Prop := clothTrueRow.holds Try.pinned (OpenSpec.ofChange clothTrueWrong)

/-- 'ferrulelaw02.ClothReached': WHATEVER THE INPUT: true; the input reads as it did. -/
def clothReachedSpec : ChangeSpec := { name := "clothReached", fn := fun _ => fun
  | [d1, d2, d3] => { results := [.lit (.bool true)], args := [d1, d2, d3] }
  | _ => none }
def clothReachedRow : OpenClaim := { program := "ytpiofeaafnldfaa", sum := "8bef11abad9ca6b6b50aa3f70ccd456da3db9d7d3cb7acfa5495827e6a4d2b53", func := "ferrule/ferrulelaw02.ClothReached", spec := "clothReached", unfollowed := true, recurses := true, apart := false }
def ClothReachedSaid : Prop := clothReachedRow.holds Try.pinned (OpenSpec.ofChange clothReachedSpec)

/-- ITS FALSE NEIGHBOUR: 'it returns false'. Refute it at one input. -/
def clothReachedWrong : ChangeSpec := { name := "clothReached", fn := fun _ => fun
  | [d1, d2, d3] => { results := [.lit (.bool false)], args := [d1, d2, d3] }
  | _ => none }
def ClothReachedWrongFalsely : Prop := clothReachedRow.holds Try.pinned (OpenSpec.ofChange clothReachedWrong)

/-- 'ferrulelaw02.ClothBetween': WHATEVER THE INPUT: true; the input reads as it did. -/
def clothBetweenSpec : ChangeSpec := { name := "clothBetween", fn := fun _ => fun
  | [d1, d2, d3] => { results := [.lit (.bool true)], args := [d1, d2, d3] }
  | _ => none }
def clothBetweenRow : OpenClaim := { program := "ytpiofeaafnldfaa", sum := "8bef11abad9ca6b6b50aa3f70ccd456da3db9d7d3cb7acfa5495827e6a4d2b53", func := "ferrule/ferrulelaw02.ClothBetween", spec := "clothBetween", unfollowed := true, recurses := true, apart := false }
def ClothBetweenSaid : Prop := clothBetweenRow.holds Try.pinned (OpenSpec.ofChange clothBetweenSpec)

/-- ITS FALSE NEIGHBOUR: 'it returns false'. Refute it at one input. -/
def clothBetweenWrong : ChangeSpec := { name := "clothBetween", fn := fun _ => fun
  | [d1, d2, d3] => { results := [.lit (.bool false)], args := [d1, d2, d3] }
  | _ => none }
def ClothBetweenWrongFalsely : Prop := clothBetweenRow.holds Try.pinned (OpenSpec.ofChange clothBetweenWrong)

/-- 'ferrulelaw02.ClothMore': WHATEVER THE INPUT: true; the input reads as it did. -/
def clothMoreSpec : ChangeSpec := { name := "clothMore", fn := fun _ => fun
  | [d1, d2, d3] => { results := [.lit (.bool true)], args := [d1, d2, d3] }
  | _ => none }
def clothMoreRow : OpenClaim := { program := "ytpiofeaafnldfaa", sum := "8bef11abad9ca6b6b50aa3f70ccd456da3db9d7d3cb7acfa5495827e6a4d2b53", func := "ferrule/ferrulelaw02.ClothMore", spec := "clothMore", unfollowed := true, recurses := true, apart := false }
def ClothMoreSaid : Prop := clothMoreRow.holds Try.pinned (OpenSpec.ofChange clothMoreSpec)

/-- ITS FALSE NEIGHBOUR: 'it returns false'. Refute it at one input. -/
def clothMoreWrong : ChangeSpec := { name := "clothMore", fn := fun _ => fun
  | [d1, d2, d3] => { results := [.lit (.bool false)], args := [d1, d2, d3] }
  | _ => none }
def ClothMoreWrongFalsely : Prop := clothMoreRow.holds Try.pinned (OpenSpec.ofChange clothMoreWrong)

/-- 'ferrulelaw02.ClothWider': WHATEVER THE INPUT: true; the input reads as it did. -/
def clothWiderSpec : ChangeSpec := { name := "clothWider", fn := fun _ => fun
  | [d1, d2, d3] => { results := [.lit (.bool true)], args := [d1, d2, d3] }
  | _ => none }
def clothWiderRow : OpenClaim := { program := "ytpiofeaafnldfaa", sum := "8bef11abad9ca6b6b50aa3f70ccd456da3db9d7d3cb7acfa5495827e6a4d2b53", func := "ferrule/ferrulelaw02.ClothWider", spec := "clothWider", unfollowed := true, recurses := true, apart := false }
def ClothWiderSaid : Prop := clothWiderRow.holds Try.pinned (OpenSpec.ofChange clothWiderSpec)

/-- ITS FALSE NEIGHBOUR: 'it returns false'. Refute it at one input. -/
def clothWiderWrong : ChangeSpec := { name := "clothWider", fn := fun _ => fun
  | [d1, d2, d3] => { results := [.lit (.bool false)], args := [d1, d2, d3] }
  | _ => none }
def ClothWiderWrongFalsely : Prop := clothWiderRow.holds Try.pinned (OpenSpec.ofChange clothWiderWrong)

/-- 'ferrulelaw02.ClothOrder': WHATEVER THE INPUT: true; the input reads as it did. -/
def clothOrderSpec : ChangeSpec := { name := "clothOrder", fn := fun _ => fun
  | [d1, d2, d3] => { results := [.lit (.bool true)], args := [d1, d2, d3] }
  | _ => none }
def clothOrderRow : OpenClaim := { program := "ytpiofeaafnldfaa", sum := "8bef11abad9ca6b6b50aa3f70ccd456da3db9d7d3cb7acfa5495827e6a4d2b53", func := "ferrule/ferrulelaw02.ClothOrder", spec := "clothOrder", unfollowed := true, recurses := true, apart := false }
def ClothOrderSaid : Prop := clothOrderRow.holds Try.pinned (OpenSpec.ofChange clothOrderSpec)

/-- ITS FALSE NEIGHBOUR: 'it returns false'. Refute it at one input. -/
def clothOrderWrong : ChangeSpec := { name := "clothOrder", fn := fun _ => fun
  | [d1, d2, d3] => { results := [.lit (.bool false)], args := [d1, d2, d3] }
  | _ => none }
def ClothOrderWrongFalsely : Prop := clothOrderRow.holds Try.pinned (OpenSpec.ofChange clothOrderWrong)

/-- 'ferrulelaw02.ClothBest': WHATEVER THE INPUT: true; the input reads as it did. -/
def clothBestSpec : ChangeSpec := { name := "clothBest", fn := fun _ => fun
  | [d1, d2, d3] => { results := [.lit (.bool true)], args := [d1, d2, d3] }
  | _ => none }
def clothBestRow : OpenClaim := { program := "ytpiofeaafnldfaa", sum := "8bef11abad9ca6b6b50aa3f70ccd456da3db9d7d3cb7acfa5495827e6a4d2b53", func := "ferrule/ferrulelaw02.ClothBest", spec := "clothBest", unfollowed := true, recurses := true, apart := false }
def ClothBestSaid : Prop := clothBestRow.holds Try.pinned (OpenSpec.ofChange clothBestSpec)

/-- ITS FALSE NEIGHBOUR: 'it returns false'. Refute it at one input. -/
def clothBestWrong : ChangeSpec := { name := "clothBest", fn := fun _ => fun
  | [d1, d2, d3] => { results := [.lit (.bool false)], args := [d1, d2, d3] }
  | _ => none }
def ClothBestWrongFalsely : Prop := clothBestRow.holds Try.pinned (OpenSpec.ofChange clothBestWrong)

/-- 'ferrulelaw02.ClothFalse': WHATEVER THE INPUT: true; the input reads as it did. -/
def clothFalseSpec : ChangeSpec := { name := "clothFalse", fn := fun _ => fun
  | [d1, d2, d3] => { results := [.lit (.bool true)], args := [d1, d2, d3] }
  | _ => none }
def clothFalseRow : OpenClaim := { program := "ytpiofeaafnldfaa", sum := "8bef11abad9ca6b6b50aa3f70ccd456da3db9d7d3cb7acfa5495827e6a4d2b53", func := "ferrule/ferrulelaw02.ClothFalse", spec := "clothFalse", unfollowed := true, recurses := true, apart := false }
def ClothFalseSaid : Prop := clothFalseRow.holds Try.pinned (OpenSpec.ofChange clothFalseSpec)

/-- ITS FALSE NEIGHBOUR: 'it returns false'. Refute it at one input. -/
def clothFalseWrong : ChangeSpec := { name := "clothFalse", fn := fun _ => fun
  | [d1, d2, d3] => { results := [.lit (.bool false)], args := [d1, d2, d3] }
  | _ => none }
def ClothFalseWrongFalsely : Prop := clothFalseRow.holds Try.pinned (OpenSpec.ofChange clothFalseWrong)

/-- 'ferrulelaw02.ClothStretch': WHATEVER THE INPUT: true; the input reads as it did. -/
def clothStretchSpec : ChangeSpec := { name := "clothStretch", fn := fun _ => fun
  | [d1, d2] => { results := [.lit (.bool true)], args := [d1, d2] }
  | _ => none }
def clothStretchRow : OpenClaim := { program := "ytpiofeaafnldfaa", sum := "8bef11abad9ca6b6b50aa3f70ccd456da3db9d7d3cb7acfa5495827e6a4d2b53", func := "ferrule/ferrulelaw02.ClothStretch", spec := "clothStretch", unfollowed := true, recurses := true, apart := false }
def ClothStretchSaid : Prop := clothStretchRow.holds Try.pinned (OpenSpec.ofChange clothStretchSpec)

/-- ITS FALSE NEIGHBOUR: 'it returns false'. Refute it at one input. -/
def clothStretchWrong : ChangeSpec := { name := "clothStretch", fn := fun _ => fun
  | [d1, d2] => { results := [.lit (.bool false)], args := [d1, d2] }
  | _ => none }
def ClothStretchWrongFalsely : Prop := clothStretchRow.holds Try.pinned (OpenSpec.ofChange clothStretchWrong)

/-- 'ferrulelaw02.ClothRounds': WHATEVER THE INPUT: true; the input reads as it did. -/
def clothRoundsSpec : ChangeSpec := { name := "clothRounds", fn := fun _ => fun
  | [d1, d2] => { results := [.lit (.bool true)], args := [d1, d2] }
  | _ => none }
def clothRoundsRow : OpenClaim := { program := "ytpiofeaafnldfaa", sum := "8bef11abad9ca6b6b50aa3f70ccd456da3db9d7d3cb7acfa5495827e6a4d2b53", func := "ferrule/ferrulelaw02.ClothRounds", spec := "clothRounds", unfollowed := true, recurses := true, apart := false }
def ClothRoundsSaid : Prop := clothRoundsRow.holds Try.pinned (OpenSpec.ofChange clothRoundsSpec)

/-- ITS FALSE NEIGHBOUR: 'it returns false'. Refute it at one input. -/
def clothRoundsWrong : ChangeSpec := { name := "clothRounds", fn := fun _ => fun
  | [d1, d2] => { results := [.lit (.bool false)], args := [d1, d2] }
  | _ => none }
def ClothRoundsWrongFalsely : Prop := clothRoundsRow.holds Try.pinned (OpenSpec.ofChange clothRoundsWrong)

/-- 'ferrulelaw02.ClothCuts': WHATEVER THE INPUT: true; the input reads as it did. -/
def clothCutsSpec : ChangeSpec := { name := "clothCuts", fn := fun _ => fun
  | [d1, d2] => { results := [.lit (.bool true)], args := [d1, d2] }
  | _ => none }
def clothCutsRow : OpenClaim := { program := "ytpiofeaafnldfaa", sum := "8bef11abad9ca6b6b50aa3f70ccd456da3db9d7d3cb7acfa5495827e6a4d2b53", func := "ferrule/ferrulelaw02.ClothCuts", spec := "clothCuts", unfollowed := true, recurses := true, apart := false }
def ClothCutsSaid : Prop := clothCutsRow.holds Try.pinned (OpenSpec.ofChange clothCutsSpec)

/-- ITS FALSE NEIGHBOUR: 'it returns false'. Refute it at one input. -/
def clothCutsWrong : ChangeSpec := { name := "clothCuts", fn := fun _ => fun
  | [d1, d2] => { results := [.lit (.bool false)], args := [d1, d2] }
  | _ => none }
def ClothCutsWrongFalsely : Prop := clothCutsRow.holds Try.pinned (OpenSpec.ofChange clothCutsWrong)

/-- 'ferrulelaw02.ClothCurve': WHATEVER THE INPUT: true; the input reads as it did. -/
def clothCurveSpec : ChangeSpec := { name := "clothCurve", fn := fun _ => fun
  | [d] => { results := [.lit (.bool true)], args := [d] }
  | _ => none }
def clothCurveRow : OpenClaim := { program := "ytpiofeaafnldfaa", sum := "8bef11abad9ca6b6b50aa3f70ccd456da3db9d7d3cb7acfa5495827e6a4d2b53", func := "ferrule/ferrulelaw02.ClothCurve", spec := "clothCurve", unfollowed := true, recurses := true, apart := false }
def ClothCurveSaid : Prop := clothCurveRow.holds Try.pinned (OpenSpec.ofChange clothCurveSpec)

/-- ITS FALSE NEIGHBOUR: 'it returns false'. Refute it at one input. -/
def clothCurveWrong : ChangeSpec := { name := "clothCurve", fn := fun _ => fun
  | [d] => { results := [.lit (.bool false)], args := [d] }
  | _ => none }
def ClothCurveWrongFalsely : Prop := clothCurveRow.holds Try.pinned (OpenSpec.ofChange clothCurveWrong)

/- THE SECOND FORM. 'bulk': how many values and letters a reading holds, each counted each time it is reached (what is shared counts as often as it is met; a slice's spare places count too). A statement '..UptoSaid' is the law's where the arguments, and the package variables that the reading takes, are together of bulk at most 1048576: NARROWER than '..Said'. Prove '..Said' where nothing that the law and all that it calls make is longer than what came in: it says more and counts as full. Else prove '..UptoSaid'. A law counts once. -/
mutual
def uptoBulk {H : Type} : DataW H → Nat
  | .lit (.string bytes) => bytes.length + 1
  | .lit _ => 1
  | .nil => 1
  | .ptr d => uptoBulk d + 1
  | .slice elems spare => uptoBulkAll elems + uptoBulkAll spare + 1
  | .agg parts => uptoBulkAll parts + 1
  | .iface _ d => uptoBulk d + 1
  | .map entries => uptoBulkEntries entries + 1
  | .held _ => 1
def uptoBulkAll {H : Type} : List (DataW H) → Nat
  | [] => 0
  | d :: r => uptoBulk d + uptoBulkAll r
def uptoBulkEntries {H : Type} : List (Lit × DataW H) → Nat
  | [] => 0
  | x :: r => uptoBulkEntry x + uptoBulkEntries r
def uptoBulkEntry {H : Type} : Lit × DataW H → Nat
  | (.string bytes, d) => bytes.length + uptoBulk d + 1
  | (_, d) => uptoBulk d + 1
 end
def uptoSmall : (H : Type) → List (DataW H) → Bool := fun _ ds => decide (uptoBulkAll ds ≤ 1048576)
def OpenSpec.upto (s : _root_.Go.ChangeSpec) : _root_.Go.OpenSpec := { _root_.Go.OpenSpec.ofChange s with cond := some uptoSmall }

/-- 'ferrulelaw02.ClothTrue', WHERE WHAT IT READS IS OF BULK AT MOST 1048576: true; the input reads as it did. -/
def clothTrueUptoRow : OpenClaim := { program := "ytpiofeaafnldfaa", sum := "8bef11abad9ca6b6b50aa3f70ccd456da3db9d7d3cb7acfa5495827e6a4d2b53", func := "ferrule/ferrulelaw02.ClothTrue", spec := "clothTrue", unfollowed := true, recurses := true, apart := false, narrowed := true }
def ClothTrueUptoSaid : Prop := clothTrueUptoRow.holds Try.pinned (OpenSpec.upto clothTrueSpec)

/-- 'ferrulelaw02.ClothReached', WHERE WHAT IT READS IS OF BULK AT MOST 1048576: true; the input reads as it did. -/
def clothReachedUptoRow : OpenClaim := { program := "ytpiofeaafnldfaa", sum := "8bef11abad9ca6b6b50aa3f70ccd456da3db9d7d3cb7acfa5495827e6a4d2b53", func := "ferrule/ferrulelaw02.ClothReached", spec := "clothReached", unfollowed := true, recurses := true, apart := false, narrowed := true }
def ClothReachedUptoSaid : Prop := clothReachedUptoRow.holds Try.pinned (OpenSpec.upto clothReachedSpec)

/-- 'ferrulelaw02.ClothBetween', WHERE WHAT IT READS IS OF BULK AT MOST 1048576: true; the input reads as it did. -/
def clothBetweenUptoRow : OpenClaim := { program := "ytpiofeaafnldfaa", sum := "8bef11abad9ca6b6b50aa3f70ccd456da3db9d7d3cb7acfa5495827e6a4d2b53", func := "ferrule/ferrulelaw02.ClothBetween", spec := "clothBetween", unfollowed := true, recurses := true, apart := false, narrowed := true }
def ClothBetweenUptoSaid : Prop := clothBetweenUptoRow.holds Try.pinned (OpenSpec.upto clothBetweenSpec)

/-- 'ferrulelaw02.ClothMore', WHERE WHAT IT READS IS OF BULK AT MOST 1048576: true; the input reads as it did. -/
def clothMoreUptoRow : OpenClaim := { program := "ytpiofeaafnldfaa", sum := "8bef11abad9ca6b6b50aa3f70ccd456da3db9d7d3cb7acfa5495827e6a4d2b53", func := "ferrule/ferrulelaw02.ClothMore", spec := "clothMore", unfollowed := true, recurses := true, apart := false, narrowed := true }
def ClothMoreUptoSaid : Prop := clothMoreUptoRow.holds Try.pinned (OpenSpec.upto clothMoreSpec)

/-- 'ferrulelaw02.ClothWider', WHERE WHAT IT READS IS OF BULK AT MOST 1048576: true; the input reads as it did. -/
def clothWiderUptoRow : OpenClaim := { program := "ytpiofeaafnldfaa", sum := "8bef11abad9ca6b6b50aa3f70ccd456da3db9d7d3cb7acfa5495827e6a4d2b53", func := "ferrule/ferrulelaw02.ClothWider", spec := "clothWider", unfollowed := true, recurses := true, apart := false, narrowed := true }
def ClothWiderUptoSaid : Prop := clothWiderUptoRow.holds Try.pinned (OpenSpec.upto clothWiderSpec)

/-- 'ferrulelaw02.ClothOrder', WHERE WHAT IT READS IS OF BULK AT MOST 1048576: true; the input reads as it did. -/
def clothOrderUptoRow : OpenClaim := { program := "ytpiofeaafnldfaa", sum := "8bef11abad9ca6b6b50aa3f70ccd456da3db9d7d3cb7acfa5495827e6a4d2b53", func := "ferrule/ferrulelaw02.ClothOrder", spec := "clothOrder", unfollowed := true, recurses := true, apart := false, narrowed := true }
def ClothOrderUptoSaid : Prop := clothOrderUptoRow.holds Try.pinned (OpenSpec.upto clothOrderSpec)

/-- 'ferrulelaw02.ClothBest', WHERE WHAT IT READS IS OF BULK AT MOST 1048576: true; the input reads as it did. -/
def clothBestUptoRow : OpenClaim := { program := "ytpiofeaafnldfaa", sum := "8bef11abad9ca6b6b50aa3f70ccd456da3db9d7d3cb7acfa5495827e6a4d2b53", func := "ferrule/ferrulelaw02.ClothBest", spec := "clothBest", unfollowed := true, recurses := true, apart := false, narrowed := true }
def ClothBestUptoSaid : Prop := clothBestUptoRow.holds Try.pinned (OpenSpec.upto clothBestSpec)

/-- 'ferrulelaw02.ClothFalse', WHERE WHAT IT READS IS OF BULK AT MOST 1048576: true; the input reads as it did. -/
def clothFalseUptoRow : OpenClaim := { program := "ytpiofeaafnldfaa", sum := "8bef11abad9ca6b6b50aa3f70ccd456da3db9d7d3cb7acfa5495827e6a4d2b53", func := "ferrule/ferrulelaw02.ClothFalse", spec := "clothFalse", unfollowed := true, recurses := true, apart := false, narrowed := true }
def ClothFalseUptoSaid : Prop := clothFalseUptoRow.holds Try.pinned (OpenSpec.upto clothFalseSpec)

/-- 'ferrulelaw02.ClothStretch', WHERE WHAT IT READS IS OF BULK AT MOST 1048576: true; the input reads as it did. -/
def clothStretchUptoRow : OpenClaim := { program := "ytpiofeaafnldfaa", sum := "8bef11abad9ca6b6b50aa3f70ccd456da3db9d7d3cb7acfa5495827e6a4d2b53", func := "ferrule/ferrulelaw02.ClothStretch", spec := "clothStretch", unfollowed := true, recurses := true, apart := false, narrowed := true }
def ClothStretchUptoSaid : Prop := clothStretchUptoRow.holds Try.pinned (OpenSpec.upto clothStretchSpec)

/-- 'ferrulelaw02.ClothRounds', WHERE WHAT IT READS IS OF BULK AT MOST 1048576: true; the input reads as it did. -/
def clothRoundsUptoRow : OpenClaim := { program := "ytpiofeaafnldfaa", sum := "8bef11abad9ca6b6b50aa3f70ccd456da3db9d7d3cb7acfa5495827e6a4d2b53", func := "ferrule/ferrulelaw02.ClothRounds", spec := "clothRounds", unfollowed := true, recurses := true, apart := false, narrowed := true }
def ClothRoundsUptoSaid : Prop := clothRoundsUptoRow.holds Try.pinned (OpenSpec.upto clothRoundsSpec)

/-- 'ferrulelaw02.ClothCuts', WHERE WHAT IT READS IS OF BULK AT MOST 1048576: true; the input reads as it did. -/
def clothCutsUptoRow : OpenClaim := { program := "ytpiofeaafnldfaa", sum := "8bef11abad9ca6b6b50aa3f70ccd456da3db9d7d3cb7acfa5495827e6a4d2b53", func := "ferrule/ferrulelaw02.ClothCuts", spec := "clothCuts", unfollowed := true, recurses := true, apart := false, narrowed := true }
def ClothCutsUptoSaid : Prop := clothCutsUptoRow.holds Try.pinned (OpenSpec.upto clothCutsSpec)

/-- 'ferrulelaw02.ClothCurve', WHERE WHAT IT READS IS OF BULK AT MOST 1048576: true; the input reads as it did. -/
def clothCurveUptoRow : OpenClaim := { program := "ytpiofeaafnldfaa", sum := "8bef11abad9ca6b6b50aa3f70ccd456da3db9d7d3cb7acfa5495827e6a4d2b53", func := "ferrule/ferrulelaw02.ClothCurve", spec := "clothCurve", unfollowed := true, recurses := true, apart := false, narrowed := true }
def ClothCurveUptoSaid : Prop := clothCurveUptoRow.holds Try.pinned (OpenSpec.upto clothCurveSpec)

end Rows
end Go.Proofs.Ytpiofeaafnldfaa
