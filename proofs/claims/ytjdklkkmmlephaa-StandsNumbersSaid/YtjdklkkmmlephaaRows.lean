/-
  No cell of these rows narrows 'for every input' (looked for: loops, veiled, ifaces, maps, wideKeys, modest, calm, conditions, laid).
  DERIVED. THE GIVEN ROWS OF THIS SEAT. 11 by the template 'for every input the law returns true; each argument reads behind the call as it read before'; 0 by the template 'total and deterministic' (their statements: YtjdklkkmmlephaaTotals.lean).
  GIVEN WITH THE SEED: the statements are not yours to turn. If you find one false, say at which input.
  Laid BY PROGRAM, IN A SANDBOX (cutbox-rows.mjs): the forced cells as the released guide's own fill.sh prints them over the translation 0f476336193b4db0… (all of the seat's roots in one cut). By AI agents, Wed Nov 11 2026. No macro, syntax, notation, axiom, sorry.
-/
import Derived.Test.YtjdklkkmmlephaaChecked
import GoSem.Claim
import GoSem.ClaimJoined
import GoSem.ClaimMapViews
import Derived.JoinedTies
import Derived.KernelRfl
namespace Go.Proofs.Ytjdklkkmmlephaa
/- THE CELL 'sum', in the pinned program and in every row, IS THE sha256 OF THE DUMP (.gsa) THAT YtjdklkkmmlephaaProg.lean LOADS. Nothing in Lean hashes anything: it is a label: what it is worth is what the hold of that sum in a sandbox is worth. -/
noncomputable def Try.pinned : Pinned := { name := "ytjdklkkmmlephaa", sum := "0f476336193b4db0f3f758ccbe49aa2b2b98b51b92a6001e3207fbab6d1096ed", checked := Try.checked }
namespace Rows
def none {H : Type} : Left H := { results := [], args := [] }

/-- 'ferrulelaw10.StandsTrue': WHATEVER THE INPUT: true; the input reads as it did. -/
def standsTrueSpec : ChangeSpec := { name := "standsTrue", fn := fun _ => fun
  | [d1, d2] => { results := [.lit (.bool true)], args := [d1, d2] }
  | _ => none }
def standsTrueRow : OpenClaim := { program := "ytjdklkkmmlephaa", sum := "0f476336193b4db0f3f758ccbe49aa2b2b98b51b92a6001e3207fbab6d1096ed", func := "ferrule/ferrulelaw10.StandsTrue", spec := "standsTrue", unfollowed := true, recurses := true, plainKeys := false, apart := false }
def StandsTrueSaid : Prop := standsTrueRow.holds Try.pinned (OpenSpec.ofChange standsTrueSpec)

/-- ITS FALSE NEIGHBOUR: 'it returns false'. Refute it at one input. -/
def standsTrueWrong : ChangeSpec := { name := "standsTrue", fn := fun _ => fun
  | [d1, d2] => { results := [.lit (.bool false)], args := [d1, d2] }
  | _ => none }
def StandsTrueWrongFalsely : Prop := standsTrueRow.holds Try.pinned (OpenSpec.ofChange standsTrueWrong)

/-- 'ferrulelaw10.StandsMore': WHATEVER THE INPUT: true; the input reads as it did. -/
def standsMoreSpec : ChangeSpec := { name := "standsMore", fn := fun _ => fun
  | [d1, d2, d3] => { results := [.lit (.bool true)], args := [d1, d2, d3] }
  | _ => none }
def standsMoreRow : OpenClaim := { program := "ytjdklkkmmlephaa", sum := "0f476336193b4db0f3f758ccbe49aa2b2b98b51b92a6001e3207fbab6d1096ed", func := "ferrule/ferrulelaw10.StandsMore", spec := "standsMore", unfollowed := true, recurses := true, plainKeys := false, apart := false }
def StandsMoreSaid : Prop := standsMoreRow.holds Try.pinned (OpenSpec.ofChange standsMoreSpec)

/-- ITS FALSE NEIGHBOUR: 'it returns false'. Refute it at one input. -/
def standsMoreWrong : ChangeSpec := { name := "standsMore", fn := fun _ => fun
  | [d1, d2, d3] => { results := [.lit (.bool false)], args := [d1, d2, d3] }
  | _ => none }
def StandsMoreWrongFalsely : Prop := standsMoreRow.holds Try.pinned (OpenSpec.ofChange standsMoreWrong)

/-- 'ferrulelaw10.StandsAnswer': WHATEVER THE INPUT: true; the input reads as it did. -/
def standsAnswerSpec : ChangeSpec := { name := "standsAnswer", fn := fun _ => fun
  | [d] => { results := [.lit (.bool true)], args := [d] }
  | _ => none }
def standsAnswerRow : OpenClaim := { program := "ytjdklkkmmlephaa", sum := "0f476336193b4db0f3f758ccbe49aa2b2b98b51b92a6001e3207fbab6d1096ed", func := "ferrule/ferrulelaw10.StandsAnswer", spec := "standsAnswer", unfollowed := true, recurses := true, plainKeys := false, apart := false }
def StandsAnswerSaid : Prop := standsAnswerRow.holds Try.pinned (OpenSpec.ofChange standsAnswerSpec)

/-- ITS FALSE NEIGHBOUR: 'it returns false'. Refute it at one input. -/
def standsAnswerWrong : ChangeSpec := { name := "standsAnswer", fn := fun _ => fun
  | [d] => { results := [.lit (.bool false)], args := [d] }
  | _ => none }
def StandsAnswerWrongFalsely : Prop := standsAnswerRow.holds Try.pinned (OpenSpec.ofChange standsAnswerWrong)

/-- 'ferrulelaw10.StandsEnough': WHATEVER THE INPUT: true; the input reads as it did. -/
def standsEnoughSpec : ChangeSpec := { name := "standsEnough", fn := fun _ => fun
  | [d] => { results := [.lit (.bool true)], args := [d] }
  | _ => none }
def standsEnoughRow : OpenClaim := { program := "ytjdklkkmmlephaa", sum := "0f476336193b4db0f3f758ccbe49aa2b2b98b51b92a6001e3207fbab6d1096ed", func := "ferrule/ferrulelaw10.StandsEnough", spec := "standsEnough", unfollowed := true, recurses := true, plainKeys := false, apart := false }
def StandsEnoughSaid : Prop := standsEnoughRow.holds Try.pinned (OpenSpec.ofChange standsEnoughSpec)

/-- ITS FALSE NEIGHBOUR: 'it returns false'. Refute it at one input. -/
def standsEnoughWrong : ChangeSpec := { name := "standsEnough", fn := fun _ => fun
  | [d] => { results := [.lit (.bool false)], args := [d] }
  | _ => none }
def StandsEnoughWrongFalsely : Prop := standsEnoughRow.holds Try.pinned (OpenSpec.ofChange standsEnoughWrong)

/-- 'ferrulelaw10.StandsExchanges': WHATEVER THE INPUT: true; the input reads as it did. -/
def standsExchangesSpec : ChangeSpec := { name := "standsExchanges", fn := fun _ => fun
  | [d1, d2, d3] => { results := [.lit (.bool true)], args := [d1, d2, d3] }
  | _ => none }
def standsExchangesRow : OpenClaim := { program := "ytjdklkkmmlephaa", sum := "0f476336193b4db0f3f758ccbe49aa2b2b98b51b92a6001e3207fbab6d1096ed", func := "ferrule/ferrulelaw10.StandsExchanges", spec := "standsExchanges", unfollowed := true, recurses := true, plainKeys := false, apart := false }
def StandsExchangesSaid : Prop := standsExchangesRow.holds Try.pinned (OpenSpec.ofChange standsExchangesSpec)

/-- ITS FALSE NEIGHBOUR: 'it returns false'. Refute it at one input. -/
def standsExchangesWrong : ChangeSpec := { name := "standsExchanges", fn := fun _ => fun
  | [d1, d2, d3] => { results := [.lit (.bool false)], args := [d1, d2, d3] }
  | _ => none }
def StandsExchangesWrongFalsely : Prop := standsExchangesRow.holds Try.pinned (OpenSpec.ofChange standsExchangesWrong)

/-- 'ferrulelaw10.StandsBack': WHATEVER THE INPUT: true; the input reads as it did. -/
def standsBackSpec : ChangeSpec := { name := "standsBack", fn := fun _ => fun
  | [d] => { results := [.lit (.bool true)], args := [d] }
  | _ => none }
def standsBackRow : OpenClaim := { program := "ytjdklkkmmlephaa", sum := "0f476336193b4db0f3f758ccbe49aa2b2b98b51b92a6001e3207fbab6d1096ed", func := "ferrule/ferrulelaw10.StandsBack", spec := "standsBack", unfollowed := true, recurses := true, plainKeys := false, apart := false }
def StandsBackSaid : Prop := standsBackRow.holds Try.pinned (OpenSpec.ofChange standsBackSpec)

/-- ITS FALSE NEIGHBOUR: 'it returns false'. Refute it at one input. -/
def standsBackWrong : ChangeSpec := { name := "standsBack", fn := fun _ => fun
  | [d] => { results := [.lit (.bool false)], args := [d] }
  | _ => none }
def StandsBackWrongFalsely : Prop := standsBackRow.holds Try.pinned (OpenSpec.ofChange standsBackWrong)

/-- 'ferrulelaw10.StandsNumbers': WHATEVER THE INPUT: true; the input reads as it did. -/
def standsNumbersSpec : ChangeSpec := { name := "standsNumbers", fn := fun _ => fun
  | [d1, d2, d3] => { results := [.lit (.bool true)], args := [d1, d2, d3] }
  | _ => none }
def standsNumbersRow : OpenClaim := { program := "ytjdklkkmmlephaa", sum := "0f476336193b4db0f3f758ccbe49aa2b2b98b51b92a6001e3207fbab6d1096ed", func := "ferrule/ferrulelaw10.StandsNumbers", spec := "standsNumbers", unfollowed := true, recurses := true, plainKeys := false, apart := false }
def StandsNumbersSaid : Prop := standsNumbersRow.holds Try.pinned (OpenSpec.ofChange standsNumbersSpec)

/-- ITS FALSE NEIGHBOUR: 'it returns false'. Refute it at one input. -/
def standsNumbersWrong : ChangeSpec := { name := "standsNumbers", fn := fun _ => fun
  | [d1, d2, d3] => { results := [.lit (.bool false)], args := [d1, d2, d3] }
  | _ => none }
def StandsNumbersWrongFalsely : Prop := standsNumbersRow.holds Try.pinned (OpenSpec.ofChange standsNumbersWrong)

/-- 'ferrulelaw10.StandsLiars': WHATEVER THE INPUT: true; the input reads as it did. -/
def standsLiarsSpec : ChangeSpec := { name := "standsLiars", fn := fun _ => fun
  | [d1, d2] => { results := [.lit (.bool true)], args := [d1, d2] }
  | _ => none }
def standsLiarsRow : OpenClaim := { program := "ytjdklkkmmlephaa", sum := "0f476336193b4db0f3f758ccbe49aa2b2b98b51b92a6001e3207fbab6d1096ed", func := "ferrule/ferrulelaw10.StandsLiars", spec := "standsLiars", unfollowed := true, recurses := true, plainKeys := false, apart := false }
def StandsLiarsSaid : Prop := standsLiarsRow.holds Try.pinned (OpenSpec.ofChange standsLiarsSpec)

/-- ITS FALSE NEIGHBOUR: 'it returns false'. Refute it at one input. -/
def standsLiarsWrong : ChangeSpec := { name := "standsLiars", fn := fun _ => fun
  | [d1, d2] => { results := [.lit (.bool false)], args := [d1, d2] }
  | _ => none }
def StandsLiarsWrongFalsely : Prop := standsLiarsRow.holds Try.pinned (OpenSpec.ofChange standsLiarsWrong)

/-- 'ferrulelaw10.StandsKnown': WHATEVER THE INPUT: true; the input reads as it did. -/
def standsKnownSpec : ChangeSpec := { name := "standsKnown", fn := fun _ => fun
  | [d1, d2] => { results := [.lit (.bool true)], args := [d1, d2] }
  | _ => none }
def standsKnownRow : OpenClaim := { program := "ytjdklkkmmlephaa", sum := "0f476336193b4db0f3f758ccbe49aa2b2b98b51b92a6001e3207fbab6d1096ed", func := "ferrule/ferrulelaw10.StandsKnown", spec := "standsKnown", unfollowed := true, recurses := true, plainKeys := false, apart := false }
def StandsKnownSaid : Prop := standsKnownRow.holds Try.pinned (OpenSpec.ofChange standsKnownSpec)

/-- ITS FALSE NEIGHBOUR: 'it returns false'. Refute it at one input. -/
def standsKnownWrong : ChangeSpec := { name := "standsKnown", fn := fun _ => fun
  | [d1, d2] => { results := [.lit (.bool false)], args := [d1, d2] }
  | _ => none }
def StandsKnownWrongFalsely : Prop := standsKnownRow.holds Try.pinned (OpenSpec.ofChange standsKnownWrong)

/-- 'ferrulelaw10.StandsQuestions': WHATEVER THE INPUT: true; the input reads as it did. -/
def standsQuestionsSpec : ChangeSpec := { name := "standsQuestions", fn := fun _ => fun
  | [d] => { results := [.lit (.bool true)], args := [d] }
  | _ => none }
def standsQuestionsRow : OpenClaim := { program := "ytjdklkkmmlephaa", sum := "0f476336193b4db0f3f758ccbe49aa2b2b98b51b92a6001e3207fbab6d1096ed", func := "ferrule/ferrulelaw10.StandsQuestions", spec := "standsQuestions", unfollowed := true, recurses := true, plainKeys := false, apart := false }
def StandsQuestionsSaid : Prop := standsQuestionsRow.holds Try.pinned (OpenSpec.ofChange standsQuestionsSpec)

/-- ITS FALSE NEIGHBOUR: 'it returns false'. Refute it at one input. -/
def standsQuestionsWrong : ChangeSpec := { name := "standsQuestions", fn := fun _ => fun
  | [d] => { results := [.lit (.bool false)], args := [d] }
  | _ => none }
def StandsQuestionsWrongFalsely : Prop := standsQuestionsRow.holds Try.pinned (OpenSpec.ofChange standsQuestionsWrong)

/-- 'ferrulelaw10.StandsSwaps': WHATEVER THE INPUT: true; the input reads as it did. -/
def standsSwapsSpec : ChangeSpec := { name := "standsSwaps", fn := fun _ => fun
  | [d] => { results := [.lit (.bool true)], args := [d] }
  | _ => none }
def standsSwapsRow : OpenClaim := { program := "ytjdklkkmmlephaa", sum := "0f476336193b4db0f3f758ccbe49aa2b2b98b51b92a6001e3207fbab6d1096ed", func := "ferrule/ferrulelaw10.StandsSwaps", spec := "standsSwaps", unfollowed := true, recurses := true, plainKeys := false, apart := false }
def StandsSwapsSaid : Prop := standsSwapsRow.holds Try.pinned (OpenSpec.ofChange standsSwapsSpec)

/-- ITS FALSE NEIGHBOUR: 'it returns false'. Refute it at one input. -/
def standsSwapsWrong : ChangeSpec := { name := "standsSwaps", fn := fun _ => fun
  | [d] => { results := [.lit (.bool false)], args := [d] }
  | _ => none }
def StandsSwapsWrongFalsely : Prop := standsSwapsRow.holds Try.pinned (OpenSpec.ofChange standsSwapsWrong)

/- THE SECOND FORM. 'bulk': how many values and letters a reading holds, each counted each time it is reached (what is shared counts as often as it is met; a slice's spare places count too). A statement '..UptoSaid' is the law's where the arguments, and the package variables that the reading takes, are together of bulk at most 1048576: NARROWER than '..Said'. Prove '..Said' where nothing that the law and all that it calls make is longer than what came in: it says more and counts as full. Else prove '..UptoSaid'. A law counts once. -/
mutual
def uptoBulk {H : Type} : DataW H → Nat
  | .lit (.string bytes) => bytes.length + 1
  | .lit _ => 1
  | .nil => 1
  | .ptr d => uptoBulk d + 1
  | .slice elems spare => uptoBulkAll elems + uptoBulkAll spare + 1
  | .agg parts => uptoBulkAll parts + 1
  | .iface _ d => uptoBulk d + 1
  | .map entries => uptoBulkEntries entries + 1
  | .held _ => 1
def uptoBulkAll {H : Type} : List (DataW H) → Nat
  | [] => 0
  | d :: r => uptoBulk d + uptoBulkAll r
def uptoBulkEntries {H : Type} : List (Lit × DataW H) → Nat
  | [] => 0
  | x :: r => uptoBulkEntry x + uptoBulkEntries r
def uptoBulkEntry {H : Type} : Lit × DataW H → Nat
  | (.string bytes, d) => bytes.length + uptoBulk d + 1
  | (_, d) => uptoBulk d + 1
 end
def uptoSmall : (H : Type) → List (DataW H) → Bool := fun _ ds => decide (uptoBulkAll ds ≤ 1048576)
def OpenSpec.upto (s : _root_.Go.ChangeSpec) : _root_.Go.OpenSpec := { _root_.Go.OpenSpec.ofChange s with cond := some uptoSmall }

/-- 'ferrulelaw10.StandsTrue', WHERE WHAT IT READS IS OF BULK AT MOST 1048576: true; the input reads as it did. -/
def standsTrueUptoRow : OpenClaim := { program := "ytjdklkkmmlephaa", sum := "0f476336193b4db0f3f758ccbe49aa2b2b98b51b92a6001e3207fbab6d1096ed", func := "ferrule/ferrulelaw10.StandsTrue", spec := "standsTrue", unfollowed := true, recurses := true, plainKeys := false, apart := false, narrowed := true }
def StandsTrueUptoSaid : Prop := standsTrueUptoRow.holds Try.pinned (OpenSpec.upto standsTrueSpec)

/-- 'ferrulelaw10.StandsMore', WHERE WHAT IT READS IS OF BULK AT MOST 1048576: true; the input reads as it did. -/
def standsMoreUptoRow : OpenClaim := { program := "ytjdklkkmmlephaa", sum := "0f476336193b4db0f3f758ccbe49aa2b2b98b51b92a6001e3207fbab6d1096ed", func := "ferrule/ferrulelaw10.StandsMore", spec := "standsMore", unfollowed := true, recurses := true, plainKeys := false, apart := false, narrowed := true }
def StandsMoreUptoSaid : Prop := standsMoreUptoRow.holds Try.pinned (OpenSpec.upto standsMoreSpec)

/-- 'ferrulelaw10.StandsAnswer', WHERE WHAT IT READS IS OF BULK AT MOST 1048576: true; the input reads as it did. -/
def standsAnswerUptoRow : OpenClaim := { program := "ytjdklkkmmlephaa", sum := "0f476336193b4db0f3f758ccbe49aa2b2b98b51b92a6001e3207fbab6d1096ed", func := "ferrule/ferrulelaw10.StandsAnswer", spec := "standsAnswer", unfollowed := true, recurses := true, plainKeys := false, apart := false, narrowed := true }
def StandsAnswerUptoSaid : Prop := standsAnswerUptoRow.holds Try.pinned (OpenSpec.upto standsAnswerSpec)

/-- 'ferrulelaw10.StandsEnough', WHERE WHAT IT READS IS OF BULK AT MOST 1048576: true; the input reads as it did. -/
def standsEnoughUptoRow : OpenClaim := { program := "ytjdklkkmmlephaa", sum := "0f476336193b4db0f3f758ccbe49aa2b2b98b51b92a6001e3207fbab6d1096ed", func := "ferrule/ferrulelaw10.StandsEnough", spec := "standsEnough", unfollowed := true, recurses := true, plainKeys := false, apart := false, narrowed := true }
def StandsEnoughUptoSaid : Prop := standsEnoughUptoRow.holds Try.pinned (OpenSpec.upto standsEnoughSpec)

/-- 'ferrulelaw10.StandsExchanges', WHERE WHAT IT READS IS OF BULK AT MOST 1048576: true; the input reads as it did. -/
def standsExchangesUptoRow : OpenClaim := { program := "ytjdklkkmmlephaa", sum := "0f476336193b4db0f3f758ccbe49aa2b2b98b51b92a6001e3207fbab6d1096ed", func := "ferrule/ferrulelaw10.StandsExchanges", spec := "standsExchanges", unfollowed := true, recurses := true, plainKeys := false, apart := false, narrowed := true }
def StandsExchangesUptoSaid : Prop := standsExchangesUptoRow.holds Try.pinned (OpenSpec.upto standsExchangesSpec)

/-- 'ferrulelaw10.StandsBack', WHERE WHAT IT READS IS OF BULK AT MOST 1048576: true; the input reads as it did. -/
def standsBackUptoRow : OpenClaim := { program := "ytjdklkkmmlephaa", sum := "0f476336193b4db0f3f758ccbe49aa2b2b98b51b92a6001e3207fbab6d1096ed", func := "ferrule/ferrulelaw10.StandsBack", spec := "standsBack", unfollowed := true, recurses := true, plainKeys := false, apart := false, narrowed := true }
def StandsBackUptoSaid : Prop := standsBackUptoRow.holds Try.pinned (OpenSpec.upto standsBackSpec)

/-- 'ferrulelaw10.StandsNumbers', WHERE WHAT IT READS IS OF BULK AT MOST 1048576: true; the input reads as it did. -/
def standsNumbersUptoRow : OpenClaim := { program := "ytjdklkkmmlephaa", sum := "0f476336193b4db0f3f758ccbe49aa2b2b98b51b92a6001e3207fbab6d1096ed", func := "ferrule/ferrulelaw10.StandsNumbers", spec := "standsNumbers", unfollowed := true, recurses := true, plainKeys := false, apart := false, narrowed := true }
def StandsNumbersUptoSaid : Prop := standsNumbersUptoRow.holds Try.pinned (OpenSpec.upto standsNumbersSpec)

/-- 'ferrulelaw10.StandsLiars', WHERE WHAT IT READS IS OF BULK AT MOST 1048576: true; the input reads as it did. -/
def standsLiarsUptoRow : OpenClaim := { program := "ytjdklkkmmlephaa", sum := "0f476336193b4db0f3f758ccbe49aa2b2b98b51b92a6001e3207fbab6d1096ed", func := "ferrule/ferrulelaw10.StandsLiars", spec := "standsLiars", unfollowed := true, recurses := true, plainKeys := false, apart := false, narrowed := true }
def StandsLiarsUptoSaid : Prop := standsLiarsUptoRow.holds Try.pinned (OpenSpec.upto standsLiarsSpec)

/-- 'ferrulelaw10.StandsKnown', WHERE WHAT IT READS IS OF BULK AT MOST 1048576: true; the input reads as it did. -/
def standsKnownUptoRow : OpenClaim := { program := "ytjdklkkmmlephaa", sum := "0f476336193b4db0f3f758ccbe49aa2b2b98b51b92a6001e3207fbab6d1096ed", func := "ferrule/ferrulelaw10.StandsKnown", spec := "standsKnown", unfollowed := true, recurses := true, plainKeys := false, apart := false, narrowed := true }
def StandsKnownUptoSaid : Prop := standsKnownUptoRow.holds Try.pinned (OpenSpec.upto standsKnownSpec)

/-- 'ferrulelaw10.StandsQuestions', WHERE WHAT IT READS IS OF BULK AT MOST 1048576: true; the input reads as it did. -/
def standsQuestionsUptoRow : OpenClaim := { program := "ytjdklkkmmlephaa", sum := "0f476336193b4db0f3f758ccbe49aa2b2b98b51b92a6001e3207fbab6d1096ed", func := "ferrule/ferrulelaw10.StandsQuestions", spec := "standsQuestions", unfollowed := true, recurses := true, plainKeys := false, apart := false, narrowed := true }
def StandsQuestionsUptoSaid : Prop := standsQuestionsUptoRow.holds Try.pinned (OpenSpec.upto standsQuestionsSpec)

/-- 'ferrulelaw10.StandsSwaps', WHERE WHAT IT READS IS OF BULK AT MOST 1048576: true; the input reads as it did. -/
def standsSwapsUptoRow : OpenClaim := { program := "ytjdklkkmmlephaa", sum := "0f476336193b4db0f3f758ccbe49aa2b2b98b51b92a6001e3207fbab6d1096ed", func := "ferrule/ferrulelaw10.StandsSwaps", spec := "standsSwaps", unfollowed := true, recurses := true, plainKeys := false, apart := false, narrowed := true }
def StandsSwapsUptoSaid : Prop := standsSwapsUptoRow.holds Try.pinned (OpenSpec.upto standsSwapsSpec)

end Rows
end Go.Proofs.Ytjdklkkmmlephaa
