/-
  No cell of these rows narrows 'for every input' (looked for: loops, veiled, ifaces, maps, wideKeys, modest, calm, conditions, laid).
  DERIVED. THE GIVEN ROWS OF THIS SEAT. 11 by the template 'for every input the law returns true; each argument reads behind the call as it read before'; 0 by the template 'total and deterministic' (their statements: YtnigbnnmkdilbaaTotals.lean).
  GIVEN WITH THE SEED: the statements are not yours to turn. If you find one false, say at which input.
  Laid BY PROGRAM, IN A SANDBOX (cutbox-rows.mjs): the forced cells as the released guide's own fill.sh prints them over the translation 9968193dbd6ddba7… (all of the seat's roots in one cut). By AI agents, Wed Nov 11 2026. No macro, syntax, notation, axiom, sorry.
-/
import Derived.Test.YtnigbnnmkdilbaaChecked
import GoSem.Claim
import GoSem.ClaimJoined
import GoSem.ClaimMapViews
import Derived.JoinedTies
import Derived.KernelRfl
namespace Go.Proofs.Ytnigbnnmkdilbaa
/- THE CELL 'sum', in the pinned program and in every row, IS THE sha256 OF THE DUMP (.gsa) THAT YtnigbnnmkdilbaaProg.lean LOADS. Nothing in Lean hashes anything: it is a label: what it is worth is what the hold of that sum in a sandbox is worth. -/
noncomputable def Try.pinned : Pinned := { name := "ytnigbnnmkdilbaa", sum := "9968193dbd6ddba777b6e0c1a24a76019e25de805c8e06d1dd35b8ececc38ec7", checked := Try.checked }
namespace Rows
def none {H : Type} : Left H := { results := [], args := [] }

/-- 'ferrulelaw07.PartsFits': WHATEVER THE INPUT: true; the input reads as it did. -/
def partsFitsSpec : ChangeSpec := { name := "partsFits", fn := fun _ => fun
  | [d1, d2] => { results := [.lit (.bool true)], args := [d1, d2] }
  | _ => none }
def partsFitsRow : OpenClaim := { program := "ytnigbnnmkdilbaa", sum := "9968193dbd6ddba777b6e0c1a24a76019e25de805c8e06d1dd35b8ececc38ec7", func := "ferrule/ferrulelaw07.PartsFits", spec := "partsFits", unfollowed := true, recurses := true, apart := false }
def PartsFitsSaid : Prop := partsFitsRow.holds Try.pinned (OpenSpec.ofChange partsFitsSpec)

/-- ITS FALSE NEIGHBOUR: 'it returns false'. Refute it at one input. -/
def partsFitsWrong : ChangeSpec := { name := "partsFits", fn := fun _ => fun
  | [d1, d2] => { results := [.lit (.bool false)], args := [d1, d2] }
  | _ => none }
def PartsFitsWrongFalsely : Prop := partsFitsRow.holds Try.pinned (OpenSpec.ofChange partsFitsWrong)

/-- 'ferrulelaw07.PartsMends': WHATEVER THE INPUT: true; the input reads as it did. -/
def partsMendsSpec : ChangeSpec := { name := "partsMends", fn := fun _ => fun
  | [d1, d2, d3] => { results := [.lit (.bool true)], args := [d1, d2, d3] }
  | _ => none }
def partsMendsRow : OpenClaim := { program := "ytnigbnnmkdilbaa", sum := "9968193dbd6ddba777b6e0c1a24a76019e25de805c8e06d1dd35b8ececc38ec7", func := "ferrule/ferrulelaw07.PartsMends", spec := "partsMends", unfollowed := true, recurses := true, apart := false }
def PartsMendsSaid : Prop := partsMendsRow.holds Try.pinned (OpenSpec.ofChange partsMendsSpec)

/-- ITS FALSE NEIGHBOUR: 'it returns false'. Refute it at one input. -/
def partsMendsWrong : ChangeSpec := { name := "partsMends", fn := fun _ => fun
  | [d1, d2, d3] => { results := [.lit (.bool false)], args := [d1, d2, d3] }
  | _ => none }
def PartsMendsWrongFalsely : Prop := partsMendsRow.holds Try.pinned (OpenSpec.ofChange partsMendsWrong)

/-- 'ferrulelaw07.PartsFewest': WHATEVER THE INPUT: true; the input reads as it did. -/
def partsFewestSpec : ChangeSpec := { name := "partsFewest", fn := fun _ => fun
  | [d] => { results := [.lit (.bool true)], args := [d] }
  | _ => none }
def partsFewestRow : OpenClaim := { program := "ytnigbnnmkdilbaa", sum := "9968193dbd6ddba777b6e0c1a24a76019e25de805c8e06d1dd35b8ececc38ec7", func := "ferrule/ferrulelaw07.PartsFewest", spec := "partsFewest", unfollowed := true, recurses := true, apart := false }
def PartsFewestSaid : Prop := partsFewestRow.holds Try.pinned (OpenSpec.ofChange partsFewestSpec)

/-- ITS FALSE NEIGHBOUR: 'it returns false'. Refute it at one input. -/
def partsFewestWrong : ChangeSpec := { name := "partsFewest", fn := fun _ => fun
  | [d] => { results := [.lit (.bool false)], args := [d] }
  | _ => none }
def PartsFewestWrongFalsely : Prop := partsFewestRow.holds Try.pinned (OpenSpec.ofChange partsFewestWrong)

/-- 'ferrulelaw07.PartsMost': WHATEVER THE INPUT: true; the input reads as it did. -/
def partsMostSpec : ChangeSpec := { name := "partsMost", fn := fun _ => fun
  | [d1, d2] => { results := [.lit (.bool true)], args := [d1, d2] }
  | _ => none }
def partsMostRow : OpenClaim := { program := "ytnigbnnmkdilbaa", sum := "9968193dbd6ddba777b6e0c1a24a76019e25de805c8e06d1dd35b8ececc38ec7", func := "ferrule/ferrulelaw07.PartsMost", spec := "partsMost", unfollowed := true, recurses := true, apart := false }
def PartsMostSaid : Prop := partsMostRow.holds Try.pinned (OpenSpec.ofChange partsMostSpec)

/-- ITS FALSE NEIGHBOUR: 'it returns false'. Refute it at one input. -/
def partsMostWrong : ChangeSpec := { name := "partsMost", fn := fun _ => fun
  | [d1, d2] => { results := [.lit (.bool false)], args := [d1, d2] }
  | _ => none }
def PartsMostWrongFalsely : Prop := partsMostRow.holds Try.pinned (OpenSpec.ofChange partsMostWrong)

/-- 'ferrulelaw07.PartsTrue': WHATEVER THE INPUT: true; the input reads as it did. -/
def partsTrueSpec : ChangeSpec := { name := "partsTrue", fn := fun _ => fun
  | [d1, d2, d3] => { results := [.lit (.bool true)], args := [d1, d2, d3] }
  | _ => none }
def partsTrueRow : OpenClaim := { program := "ytnigbnnmkdilbaa", sum := "9968193dbd6ddba777b6e0c1a24a76019e25de805c8e06d1dd35b8ececc38ec7", func := "ferrule/ferrulelaw07.PartsTrue", spec := "partsTrue", unfollowed := true, recurses := true, apart := false }
def PartsTrueSaid : Prop := partsTrueRow.holds Try.pinned (OpenSpec.ofChange partsTrueSpec)

/-- ITS FALSE NEIGHBOUR: 'it returns false'. Refute it at one input. -/
def partsTrueWrong : ChangeSpec := { name := "partsTrue", fn := fun _ => fun
  | [d1, d2, d3] => { results := [.lit (.bool false)], args := [d1, d2, d3] }
  | _ => none }
def PartsTrueWrongFalsely : Prop := partsTrueRow.holds Try.pinned (OpenSpec.ofChange partsTrueWrong)

/-- 'ferrulelaw07.PartsTrial': WHATEVER THE INPUT: true; the input reads as it did. -/
def partsTrialSpec : ChangeSpec := { name := "partsTrial", fn := fun _ => fun
  | [d1, d2, d3] => { results := [.lit (.bool true)], args := [d1, d2, d3] }
  | _ => none }
def partsTrialRow : OpenClaim := { program := "ytnigbnnmkdilbaa", sum := "9968193dbd6ddba777b6e0c1a24a76019e25de805c8e06d1dd35b8ececc38ec7", func := "ferrule/ferrulelaw07.PartsTrial", spec := "partsTrial", unfollowed := true, recurses := true, apart := false }
def PartsTrialSaid : Prop := partsTrialRow.holds Try.pinned (OpenSpec.ofChange partsTrialSpec)

/-- ITS FALSE NEIGHBOUR: 'it returns false'. Refute it at one input. -/
def partsTrialWrong : ChangeSpec := { name := "partsTrial", fn := fun _ => fun
  | [d1, d2, d3] => { results := [.lit (.bool false)], args := [d1, d2, d3] }
  | _ => none }
def PartsTrialWrongFalsely : Prop := partsTrialRow.holds Try.pinned (OpenSpec.ofChange partsTrialWrong)

/-- 'ferrulelaw07.PartsLists': WHATEVER THE INPUT: true; the input reads as it did. -/
def partsListsSpec : ChangeSpec := { name := "partsLists", fn := fun _ => fun
  | [d1, d2] => { results := [.lit (.bool true)], args := [d1, d2] }
  | _ => none }
def partsListsRow : OpenClaim := { program := "ytnigbnnmkdilbaa", sum := "9968193dbd6ddba777b6e0c1a24a76019e25de805c8e06d1dd35b8ececc38ec7", func := "ferrule/ferrulelaw07.PartsLists", spec := "partsLists", unfollowed := true, recurses := true, apart := false }
def PartsListsSaid : Prop := partsListsRow.holds Try.pinned (OpenSpec.ofChange partsListsSpec)

/-- ITS FALSE NEIGHBOUR: 'it returns false'. Refute it at one input. -/
def partsListsWrong : ChangeSpec := { name := "partsLists", fn := fun _ => fun
  | [d1, d2] => { results := [.lit (.bool false)], args := [d1, d2] }
  | _ => none }
def PartsListsWrongFalsely : Prop := partsListsRow.holds Try.pinned (OpenSpec.ofChange partsListsWrong)

/-- 'ferrulelaw07.PartsLess': WHATEVER THE INPUT: true; the input reads as it did. -/
def partsLessSpec : ChangeSpec := { name := "partsLess", fn := fun _ => fun
  | [d1, d2] => { results := [.lit (.bool true)], args := [d1, d2] }
  | _ => none }
def partsLessRow : OpenClaim := { program := "ytnigbnnmkdilbaa", sum := "9968193dbd6ddba777b6e0c1a24a76019e25de805c8e06d1dd35b8ececc38ec7", func := "ferrule/ferrulelaw07.PartsLess", spec := "partsLess", unfollowed := true, recurses := true, apart := false }
def PartsLessSaid : Prop := partsLessRow.holds Try.pinned (OpenSpec.ofChange partsLessSpec)

/-- ITS FALSE NEIGHBOUR: 'it returns false'. Refute it at one input. -/
def partsLessWrong : ChangeSpec := { name := "partsLess", fn := fun _ => fun
  | [d1, d2] => { results := [.lit (.bool false)], args := [d1, d2] }
  | _ => none }
def PartsLessWrongFalsely : Prop := partsLessRow.holds Try.pinned (OpenSpec.ofChange partsLessWrong)

/-- 'ferrulelaw07.PartsProof': WHATEVER THE INPUT: true; the input reads as it did. -/
def partsProofSpec : ChangeSpec := { name := "partsProof", fn := fun _ => fun
  | [d1, d2, d3] => { results := [.lit (.bool true)], args := [d1, d2, d3] }
  | _ => none }
def partsProofRow : OpenClaim := { program := "ytnigbnnmkdilbaa", sum := "9968193dbd6ddba777b6e0c1a24a76019e25de805c8e06d1dd35b8ececc38ec7", func := "ferrule/ferrulelaw07.PartsProof", spec := "partsProof", unfollowed := true, recurses := true, apart := false }
def PartsProofSaid : Prop := partsProofRow.holds Try.pinned (OpenSpec.ofChange partsProofSpec)

/-- ITS FALSE NEIGHBOUR: 'it returns false'. Refute it at one input. -/
def partsProofWrong : ChangeSpec := { name := "partsProof", fn := fun _ => fun
  | [d1, d2, d3] => { results := [.lit (.bool false)], args := [d1, d2, d3] }
  | _ => none }
def PartsProofWrongFalsely : Prop := partsProofRow.holds Try.pinned (OpenSpec.ofChange partsProofWrong)

/-- 'ferrulelaw07.PartsStock': WHATEVER THE INPUT: true; the input reads as it did. -/
def partsStockSpec : ChangeSpec := { name := "partsStock", fn := fun _ => fun
  | [d1, d2, d3] => { results := [.lit (.bool true)], args := [d1, d2, d3] }
  | _ => none }
def partsStockRow : OpenClaim := { program := "ytnigbnnmkdilbaa", sum := "9968193dbd6ddba777b6e0c1a24a76019e25de805c8e06d1dd35b8ececc38ec7", func := "ferrule/ferrulelaw07.PartsStock", spec := "partsStock", unfollowed := true, recurses := true, apart := false }
def PartsStockSaid : Prop := partsStockRow.holds Try.pinned (OpenSpec.ofChange partsStockSpec)

/-- ITS FALSE NEIGHBOUR: 'it returns false'. Refute it at one input. -/
def partsStockWrong : ChangeSpec := { name := "partsStock", fn := fun _ => fun
  | [d1, d2, d3] => { results := [.lit (.bool false)], args := [d1, d2, d3] }
  | _ => none }
def PartsStockWrongFalsely : Prop := partsStockRow.holds Try.pinned (OpenSpec.ofChange partsStockWrong)

/-- 'ferruletop.TopRib': WHATEVER THE INPUT: true; the input reads as it did. -/
def topRibSpec : ChangeSpec := { name := "topRib", fn := fun _ => fun
  | [d1, d2, d3] => { results := [.lit (.bool true)], args := [d1, d2, d3] }
  | _ => none }
def topRibRow : OpenClaim := { program := "ytnigbnnmkdilbaa", sum := "9968193dbd6ddba777b6e0c1a24a76019e25de805c8e06d1dd35b8ececc38ec7", func := "ferrule/ferruletop.TopRib", spec := "topRib", unfollowed := true, recurses := true, apart := false }
def TopRibSaid : Prop := topRibRow.holds Try.pinned (OpenSpec.ofChange topRibSpec)

/-- ITS FALSE NEIGHBOUR: 'it returns false'. Refute it at one input. -/
def topRibWrong : ChangeSpec := { name := "topRib", fn := fun _ => fun
  | [d1, d2, d3] => { results := [.lit (.bool false)], args := [d1, d2, d3] }
  | _ => none }
def TopRibWrongFalsely : Prop := topRibRow.holds Try.pinned (OpenSpec.ofChange topRibWrong)

/- THE SECOND FORM. 'bulk': how many values and letters a reading holds, each counted each time it is reached (what is shared counts as often as it is met; a slice's spare places count too). A statement '..UptoSaid' is the law's where the arguments, and the package variables that the reading takes, are together of bulk at most 1048576: NARROWER than '..Said'. Prove '..Said' where nothing that the law and all that it calls make is longer than what came in: it says more and counts as full. Else prove '..UptoSaid'. A law counts once. -/
mutual
def uptoBulk {H : Type} : DataW H → Nat
  | .lit (.string bytes) => bytes.length + 1
  | .lit _ => 1
  | .nil => 1
  | .ptr d => uptoBulk d + 1
  | .slice elems spare => uptoBulkAll elems + uptoBulkAll spare + 1
  | .agg parts => uptoBulkAll parts + 1
  | .iface _ d => uptoBulk d + 1
  | .map entries => uptoBulkEntries entries + 1
  | .held _ => 1
def uptoBulkAll {H : Type} : List (DataW H) → Nat
  | [] => 0
  | d :: r => uptoBulk d + uptoBulkAll r
def uptoBulkEntries {H : Type} : List (Lit × DataW H) → Nat
  | [] => 0
  | x :: r => uptoBulkEntry x + uptoBulkEntries r
def uptoBulkEntry {H : Type} : Lit × DataW H → Nat
  | (.string bytes, d) => bytes.length + uptoBulk d + 1
  | (_, d) => uptoBulk d + 1
 end
def uptoSmall : (H : Type) → List (DataW H) → Bool := fun _ ds => decide (uptoBulkAll ds ≤ 1048576)
def OpenSpec.upto (s : _root_.Go.ChangeSpec) : _root_.Go.OpenSpec := { _root_.Go.OpenSpec.ofChange s with cond := some uptoSmall }

/-- 'ferrulelaw07.PartsFits', WHERE WHAT IT READS IS OF BULK AT MOST 1048576: true; the input reads as it did. -/
def partsFitsUptoRow : OpenClaim := { program := "ytnigbnnmkdilbaa", sum := "9968193dbd6ddba777b6e0c1a24a76019e25de805c8e06d1dd35b8ececc38ec7", func := "ferrule/ferrulelaw07.PartsFits", spec := "partsFits", unfollowed := true, recurses := true, apart := false, narrowed := true }
def PartsFitsUptoSaid : Prop := partsFitsUptoRow.holds Try.pinned (OpenSpec.upto partsFitsSpec)

/-- 'ferrulelaw07.PartsMends', WHERE WHAT IT READS IS OF BULK AT MOST 1048576: true; the input reads as it did. -/
def partsMendsUptoRow : OpenClaim := { program := "ytnigbnnmkdilbaa", sum := "9968193dbd6ddba777b6e0c1a24a76019e25de805c8e06d1dd35b8ececc38ec7", func := "ferrule/ferrulelaw07.PartsMends", spec := "partsMends", unfollowed := true, recurses := true, apart := false, narrowed := true }
def PartsMendsUptoSaid : Prop := partsMendsUptoRow.holds Try.pinned (OpenSpec.upto partsMendsSpec)

/-- 'ferrulelaw07.PartsFewest', WHERE WHAT IT READS IS OF BULK AT MOST 1048576: true; the input reads as it did. -/
def partsFewestUptoRow : OpenClaim := { program := "ytnigbnnmkdilbaa", sum := "9968193dbd6ddba777b6e0c1a24a76019e25de805c8e06d1dd35b8ececc38ec7", func := "ferrule/ferrulelaw07.PartsFewest", spec := "partsFewest", unfollowed := true, recurses := true, apart := false, narrowed := true }
def PartsFewestUptoSaid : Prop := partsFewestUptoRow.holds Try.pinned (OpenSpec.upto partsFewestSpec)

/-- 'ferrulelaw07.PartsMost', WHERE WHAT IT READS IS OF BULK AT MOST 1048576: true; the input reads as it did. -/
def partsMostUptoRow : OpenClaim := { program := "ytnigbnnmkdilbaa", sum := "9968193dbd6ddba777b6e0c1a24a76019e25de805c8e06d1dd35b8ececc38ec7", func := "ferrule/ferrulelaw07.PartsMost", spec := "partsMost", unfollowed := true, recurses := true, apart := false, narrowed := true }
def PartsMostUptoSaid : Prop := partsMostUptoRow.holds Try.pinned (OpenSpec.upto partsMostSpec)

/-- 'ferrulelaw07.PartsTrue', WHERE WHAT IT READS IS OF BULK AT MOST 1048576: true; the input reads as it did. -/
def partsTrueUptoRow : OpenClaim := { program := "ytnigbnnmkdilbaa", sum := "9968193dbd6ddba777b6e0c1a24a76019e25de805c8e06d1dd35b8ececc38ec7", func := "ferrule/ferrulelaw07.PartsTrue", spec := "partsTrue", unfollowed := true, recurses := true, apart := false, narrowed := true }
def PartsTrueUptoSaid : Prop := partsTrueUptoRow.holds Try.pinned (OpenSpec.upto partsTrueSpec)

/-- 'ferrulelaw07.PartsTrial', WHERE WHAT IT READS IS OF BULK AT MOST 1048576: true; the input reads as it did. -/
def partsTrialUptoRow : OpenClaim := { program := "ytnigbnnmkdilbaa", sum := "9968193dbd6ddba777b6e0c1a24a76019e25de805c8e06d1dd35b8ececc38ec7", func := "ferrule/ferrulelaw07.PartsTrial", spec := "partsTrial", unfollowed := true, recurses := true, apart := false, narrowed := true }
def PartsTrialUptoSaid : Prop := partsTrialUptoRow.holds Try.pinned (OpenSpec.upto partsTrialSpec)

/-- 'ferrulelaw07.PartsLists', WHERE WHAT IT READS IS OF BULK AT MOST 1048576: true; the input reads as it did. -/
def partsListsUptoRow : OpenClaim := { program := "ytnigbnnmkdilbaa", sum := "9968193dbd6ddba777b6e0c1a24a76019e25de805c8e06d1dd35b8ececc38ec7", func := "ferrule/ferrulelaw07.PartsLists", spec := "partsLists", unfollowed := true, recurses := true, apart := false, narrowed := true }
def PartsListsUptoSaid : Prop := partsListsUptoRow.holds Try.pinned (OpenSpec.upto partsListsSpec)

/-- 'ferrulelaw07.PartsLess', WHERE WHAT IT READS IS OF BULK AT MOST 1048576: true; the input reads as it did. -/
def partsLessUptoRow : OpenClaim := { program := "ytnigbnnmkdilbaa", sum := "9968193dbd6ddba777b6e0c1a24a76019e25de805c8e06d1dd35b8ececc38ec7", func := "ferrule/ferrulelaw07.PartsLess", spec := "partsLess", unfollowed := true, recurses := true, apart := false, narrowed := true }
def PartsLessUptoSaid : Prop := partsLessUptoRow.holds Try.pinned (OpenSpec.upto partsLessSpec)

/-- 'ferrulelaw07.PartsProof', WHERE WHAT IT READS IS OF BULK AT MOST 1048576: true; the input reads as it did. -/
def partsProofUptoRow : OpenClaim := { program := "ytnigbnnmkdilbaa", sum := "9968193dbd6ddba777b6e0c1a24a76019e25de805c8e06d1dd35b8ececc38ec7", func := "ferrule/ferrulelaw07.PartsProof", spec := "partsProof", unfollowed := true, recurses := true, apart := false, narrowed := true }
def PartsProofUptoSaid : Prop := partsProofUptoRow.holds Try.pinned (OpenSpec.upto partsProofSpec)

/-- 'ferrulelaw07.PartsStock', WHERE WHAT IT READS IS OF BULK AT MOST 1048576: true; the input reads as it did. -/
def partsStockUptoRow : OpenClaim := { program := "ytnigbnnmkdilbaa", sum := "9968193dbd6ddba777b6e0c1a24a76019e25de805c8e06d1dd35b8ececc38ec7", func := "ferrule/ferrulelaw07.PartsStock", spec := "partsStock", unfollowed := true, recurses := true, apart := false, narrowed := true }
def PartsStockUptoSaid : Prop := partsStockUptoRow.holds Try.pinned (OpenSpec.upto partsStockSpec)

/-- 'ferruletop.TopRib', WHERE WHAT IT READS IS OF BULK AT MOST 1048576: true; the input reads as it did. -/
def topRibUptoRow : OpenClaim := { program := "ytnigbnnmkdilbaa", sum := "9968193dbd6ddba777b6e0c1a24a76019e25de805c8e06d1dd35b8ececc38ec7", func := "ferrule/ferruletop.TopRib", spec := "topRib", unfollowed := true, recurses := true, apart := false, narrowed := true }
def TopRibUptoSaid : Prop := topRibUptoRow.holds Try.pinned (OpenSpec.upto topRibSpec)

end Rows
end Go.Proofs.Ytnigbnnmkdilbaa
