/-
  No cell of these rows narrows 'for every input' (looked for: loops, veiled, ifaces, maps, wideKeys, modest, calm, conditions, laid).
  DERIVED. THE GIVEN ROWS OF THIS SEAT. 12 by the template 'for every input the law returns true; each argument reads behind the call as it read before'; 0 by the template 'total and deterministic' (their statements: YthdggpljbnmffaaGreatTotals.lean).
  GIVEN WITH THE SEED: the statements are not yours to turn. If you find one false, say at which input.
  Laid BY PROGRAM, IN A SANDBOX (cutbox-rows.mjs): the forced cells as the released guide's own fill.sh prints them over the translation a78bd6e5ee3b5ce6… (all of the seat's roots in one cut). By AI agents, Wed Nov 11 2026. No macro, syntax, notation, axiom, sorry.
-/
import Derived.Test.YthdggpljbnmffaaGreatChecked
import GoSem.Claim
import GoSem.ClaimJoined
import GoSem.ClaimMapViews
import Derived.JoinedTies
import Derived.KernelRfl
namespace Go.Proofs.YthdggpljbnmffaaGreat
/- THE CELL 'sum', in the pinned program and in every row, IS THE sha256 OF THE DUMP (.gsa) THAT YthdggpljbnmffaaGreatProg.lean LOADS. Nothing in Lean hashes anything: it is a label: what it is worth is what the hold of that sum in a sandbox is worth. -/
noncomputable def Tryz.pinned : Pinned := { name := "ythdggpljbnmffaagreat", sum := "a78bd6e5ee3b5ce697556005545f73c2352d4ad47aba50a43890a570184d364e", checked := Tryz.checked }
namespace Rows
def none {H : Type} : Left H := { results := [], args := [] }

/-- 'ferrulelaw08.OrdersBest': WHATEVER THE INPUT: true; the input reads as it did. -/
def ordersBestSpec : ChangeSpec := { name := "ordersBest", fn := fun _ => fun
  | [d1, d2] => { results := [.lit (.bool true)], args := [d1, d2] }
  | _ => none }
def ordersBestRow : OpenClaim := { program := "ythdggpljbnmffaagreat", sum := "a78bd6e5ee3b5ce697556005545f73c2352d4ad47aba50a43890a570184d364e", func := "ferrule/ferrulelaw08.OrdersBest", spec := "ordersBest", unfollowed := true, recurses := true, plainKeys := false, apart := false }
def OrdersBestSaid : Prop := ordersBestRow.holds Tryz.pinned (OpenSpec.ofChange ordersBestSpec)

/-- ITS FALSE NEIGHBOUR: 'it returns false'. Refute it at one input. -/
def ordersBestWrong : ChangeSpec := { name := "ordersBest", fn := fun _ => fun
  | [d1, d2] => { results := [.lit (.bool false)], args := [d1, d2] }
  | _ => none }
def OrdersBestWrongFalsely : Prop := ordersBestRow.holds Tryz.pinned (OpenSpec.ofChange ordersBestWrong)

/-- 'ferrulelaw08.OrdersSpare': WHATEVER THE INPUT: true; the input reads as it did. -/
def ordersSpareSpec : ChangeSpec := { name := "ordersSpare", fn := fun _ => fun
  | [d1, d2, d3] => { results := [.lit (.bool true)], args := [d1, d2, d3] }
  | _ => none }
def ordersSpareRow : OpenClaim := { program := "ythdggpljbnmffaagreat", sum := "a78bd6e5ee3b5ce697556005545f73c2352d4ad47aba50a43890a570184d364e", func := "ferrule/ferrulelaw08.OrdersSpare", spec := "ordersSpare", unfollowed := true, recurses := true, plainKeys := false, apart := false }
def OrdersSpareSaid : Prop := ordersSpareRow.holds Tryz.pinned (OpenSpec.ofChange ordersSpareSpec)

/-- ITS FALSE NEIGHBOUR: 'it returns false'. Refute it at one input. -/
def ordersSpareWrong : ChangeSpec := { name := "ordersSpare", fn := fun _ => fun
  | [d1, d2, d3] => { results := [.lit (.bool false)], args := [d1, d2, d3] }
  | _ => none }
def OrdersSpareWrongFalsely : Prop := ordersSpareRow.holds Tryz.pinned (OpenSpec.ofChange ordersSpareWrong)

/-- 'ferrulelaw08.OrdersWish': WHATEVER THE INPUT: true; the input reads as it did. -/
def ordersWishSpec : ChangeSpec := { name := "ordersWish", fn := fun _ => fun
  | [d1, d2] => { results := [.lit (.bool true)], args := [d1, d2] }
  | _ => none }
def ordersWishRow : OpenClaim := { program := "ythdggpljbnmffaagreat", sum := "a78bd6e5ee3b5ce697556005545f73c2352d4ad47aba50a43890a570184d364e", func := "ferrule/ferrulelaw08.OrdersWish", spec := "ordersWish", unfollowed := true, recurses := true, plainKeys := false, apart := false }
def OrdersWishSaid : Prop := ordersWishRow.holds Tryz.pinned (OpenSpec.ofChange ordersWishSpec)

/-- ITS FALSE NEIGHBOUR: 'it returns false'. Refute it at one input. -/
def ordersWishWrong : ChangeSpec := { name := "ordersWish", fn := fun _ => fun
  | [d1, d2] => { results := [.lit (.bool false)], args := [d1, d2] }
  | _ => none }
def OrdersWishWrongFalsely : Prop := ordersWishRow.holds Tryz.pinned (OpenSpec.ofChange ordersWishWrong)

/-- 'ferrulelaw08.OrdersOrder': WHATEVER THE INPUT: true; the input reads as it did. -/
def ordersOrderSpec : ChangeSpec := { name := "ordersOrder", fn := fun _ => fun
  | [d1, d2] => { results := [.lit (.bool true)], args := [d1, d2] }
  | _ => none }
def ordersOrderRow : OpenClaim := { program := "ythdggpljbnmffaagreat", sum := "a78bd6e5ee3b5ce697556005545f73c2352d4ad47aba50a43890a570184d364e", func := "ferrule/ferrulelaw08.OrdersOrder", spec := "ordersOrder", unfollowed := true, recurses := true, plainKeys := false, apart := false }
def OrdersOrderSaid : Prop := ordersOrderRow.holds Tryz.pinned (OpenSpec.ofChange ordersOrderSpec)

/-- ITS FALSE NEIGHBOUR: 'it returns false'. Refute it at one input. -/
def ordersOrderWrong : ChangeSpec := { name := "ordersOrder", fn := fun _ => fun
  | [d1, d2] => { results := [.lit (.bool false)], args := [d1, d2] }
  | _ => none }
def OrdersOrderWrongFalsely : Prop := ordersOrderRow.holds Tryz.pinned (OpenSpec.ofChange ordersOrderWrong)

/-- 'ferrulelaw08.OrdersTime': WHATEVER THE INPUT: true; the input reads as it did. -/
def ordersTimeSpec : ChangeSpec := { name := "ordersTime", fn := fun _ => fun
  | [d1, d2] => { results := [.lit (.bool true)], args := [d1, d2] }
  | _ => none }
def ordersTimeRow : OpenClaim := { program := "ythdggpljbnmffaagreat", sum := "a78bd6e5ee3b5ce697556005545f73c2352d4ad47aba50a43890a570184d364e", func := "ferrule/ferrulelaw08.OrdersTime", spec := "ordersTime", unfollowed := true, recurses := true, plainKeys := false, apart := false }
def OrdersTimeSaid : Prop := ordersTimeRow.holds Tryz.pinned (OpenSpec.ofChange ordersTimeSpec)

/-- ITS FALSE NEIGHBOUR: 'it returns false'. Refute it at one input. -/
def ordersTimeWrong : ChangeSpec := { name := "ordersTime", fn := fun _ => fun
  | [d1, d2] => { results := [.lit (.bool false)], args := [d1, d2] }
  | _ => none }
def OrdersTimeWrongFalsely : Prop := ordersTimeRow.holds Tryz.pinned (OpenSpec.ofChange ordersTimeWrong)

/-- 'ferrulelaw08.OrdersAll': WHATEVER THE INPUT: true; the input reads as it did. -/
def ordersAllSpec : ChangeSpec := { name := "ordersAll", fn := fun _ => fun
  | [d1, d2] => { results := [.lit (.bool true)], args := [d1, d2] }
  | _ => none }
def ordersAllRow : OpenClaim := { program := "ythdggpljbnmffaagreat", sum := "a78bd6e5ee3b5ce697556005545f73c2352d4ad47aba50a43890a570184d364e", func := "ferrule/ferrulelaw08.OrdersAll", spec := "ordersAll", unfollowed := true, recurses := true, plainKeys := false, apart := false }
def OrdersAllSaid : Prop := ordersAllRow.holds Tryz.pinned (OpenSpec.ofChange ordersAllSpec)

/-- ITS FALSE NEIGHBOUR: 'it returns false'. Refute it at one input. -/
def ordersAllWrong : ChangeSpec := { name := "ordersAll", fn := fun _ => fun
  | [d1, d2] => { results := [.lit (.bool false)], args := [d1, d2] }
  | _ => none }
def OrdersAllWrongFalsely : Prop := ordersAllRow.holds Tryz.pinned (OpenSpec.ofChange ordersAllWrong)

/-- 'ferrulelaw08.OrdersLost': WHATEVER THE INPUT: true; the input reads as it did. -/
def ordersLostSpec : ChangeSpec := { name := "ordersLost", fn := fun _ => fun
  | [d1, d2] => { results := [.lit (.bool true)], args := [d1, d2] }
  | _ => none }
def ordersLostRow : OpenClaim := { program := "ythdggpljbnmffaagreat", sum := "a78bd6e5ee3b5ce697556005545f73c2352d4ad47aba50a43890a570184d364e", func := "ferrule/ferrulelaw08.OrdersLost", spec := "ordersLost", unfollowed := true, recurses := true, plainKeys := false, apart := false }
def OrdersLostSaid : Prop := ordersLostRow.holds Tryz.pinned (OpenSpec.ofChange ordersLostSpec)

/-- ITS FALSE NEIGHBOUR: 'it returns false'. Refute it at one input. -/
def ordersLostWrong : ChangeSpec := { name := "ordersLost", fn := fun _ => fun
  | [d1, d2] => { results := [.lit (.bool false)], args := [d1, d2] }
  | _ => none }
def OrdersLostWrongFalsely : Prop := ordersLostRow.holds Tryz.pinned (OpenSpec.ofChange ordersLostWrong)

/-- 'ferrulelaw08.OrdersSuit': WHATEVER THE INPUT: true; the input reads as it did. -/
def ordersSuitSpec : ChangeSpec := { name := "ordersSuit", fn := fun _ => fun
  | [d1, d2] => { results := [.lit (.bool true)], args := [d1, d2] }
  | _ => none }
def ordersSuitRow : OpenClaim := { program := "ythdggpljbnmffaagreat", sum := "a78bd6e5ee3b5ce697556005545f73c2352d4ad47aba50a43890a570184d364e", func := "ferrule/ferrulelaw08.OrdersSuit", spec := "ordersSuit", unfollowed := true, recurses := true, plainKeys := false, apart := false }
def OrdersSuitSaid : Prop := ordersSuitRow.holds Tryz.pinned (OpenSpec.ofChange ordersSuitSpec)

/-- ITS FALSE NEIGHBOUR: 'it returns false'. Refute it at one input. -/
def ordersSuitWrong : ChangeSpec := { name := "ordersSuit", fn := fun _ => fun
  | [d1, d2] => { results := [.lit (.bool false)], args := [d1, d2] }
  | _ => none }
def OrdersSuitWrongFalsely : Prop := ordersSuitRow.holds Tryz.pinned (OpenSpec.ofChange ordersSuitWrong)

/-- 'ferrulelaw08.OrdersMost': WHATEVER THE INPUT: true; the input reads as it did. -/
def ordersMostSpec : ChangeSpec := { name := "ordersMost", fn := fun _ => fun
  | [d1, d2] => { results := [.lit (.bool true)], args := [d1, d2] }
  | _ => none }
def ordersMostRow : OpenClaim := { program := "ythdggpljbnmffaagreat", sum := "a78bd6e5ee3b5ce697556005545f73c2352d4ad47aba50a43890a570184d364e", func := "ferrule/ferrulelaw08.OrdersMost", spec := "ordersMost", unfollowed := true, recurses := true, plainKeys := false, apart := false }
def OrdersMostSaid : Prop := ordersMostRow.holds Tryz.pinned (OpenSpec.ofChange ordersMostSpec)

/-- ITS FALSE NEIGHBOUR: 'it returns false'. Refute it at one input. -/
def ordersMostWrong : ChangeSpec := { name := "ordersMost", fn := fun _ => fun
  | [d1, d2] => { results := [.lit (.bool false)], args := [d1, d2] }
  | _ => none }
def OrdersMostWrongFalsely : Prop := ordersMostRow.holds Tryz.pinned (OpenSpec.ofChange ordersMostWrong)

/-- 'ferrulelaw08.OrdersTakes': WHATEVER THE INPUT: true; the input reads as it did. -/
def ordersTakesSpec : ChangeSpec := { name := "ordersTakes", fn := fun _ => fun
  | [d1, d2] => { results := [.lit (.bool true)], args := [d1, d2] }
  | _ => none }
def ordersTakesRow : OpenClaim := { program := "ythdggpljbnmffaagreat", sum := "a78bd6e5ee3b5ce697556005545f73c2352d4ad47aba50a43890a570184d364e", func := "ferrule/ferrulelaw08.OrdersTakes", spec := "ordersTakes", unfollowed := true, recurses := true, plainKeys := false, apart := false }
def OrdersTakesSaid : Prop := ordersTakesRow.holds Tryz.pinned (OpenSpec.ofChange ordersTakesSpec)

/-- ITS FALSE NEIGHBOUR: 'it returns false'. Refute it at one input. -/
def ordersTakesWrong : ChangeSpec := { name := "ordersTakes", fn := fun _ => fun
  | [d1, d2] => { results := [.lit (.bool false)], args := [d1, d2] }
  | _ => none }
def OrdersTakesWrongFalsely : Prop := ordersTakesRow.holds Tryz.pinned (OpenSpec.ofChange ordersTakesWrong)

/-- 'ferrulelaw08.OrdersPlan': WHATEVER THE INPUT: true; the input reads as it did. -/
def ordersPlanSpec : ChangeSpec := { name := "ordersPlan", fn := fun _ => fun
  | [d] => { results := [.lit (.bool true)], args := [d] }
  | _ => none }
def ordersPlanRow : OpenClaim := { program := "ythdggpljbnmffaagreat", sum := "a78bd6e5ee3b5ce697556005545f73c2352d4ad47aba50a43890a570184d364e", func := "ferrule/ferrulelaw08.OrdersPlan", spec := "ordersPlan", unfollowed := true, recurses := true, plainKeys := false, apart := false }
def OrdersPlanSaid : Prop := ordersPlanRow.holds Tryz.pinned (OpenSpec.ofChange ordersPlanSpec)

/-- ITS FALSE NEIGHBOUR: 'it returns false'. Refute it at one input. -/
def ordersPlanWrong : ChangeSpec := { name := "ordersPlan", fn := fun _ => fun
  | [d] => { results := [.lit (.bool false)], args := [d] }
  | _ => none }
def OrdersPlanWrongFalsely : Prop := ordersPlanRow.holds Tryz.pinned (OpenSpec.ofChange ordersPlanWrong)

/-- 'ferruletop.TopSteam': WHATEVER THE INPUT: true; the input reads as it did. -/
def topSteamSpec : ChangeSpec := { name := "topSteam", fn := fun _ => fun
  | [d1, d2, d3] => { results := [.lit (.bool true)], args := [d1, d2, d3] }
  | _ => none }
def topSteamRow : OpenClaim := { program := "ythdggpljbnmffaagreat", sum := "a78bd6e5ee3b5ce697556005545f73c2352d4ad47aba50a43890a570184d364e", func := "ferrule/ferruletop.TopSteam", spec := "topSteam", unfollowed := true, recurses := true, plainKeys := false, apart := false }
def TopSteamSaid : Prop := topSteamRow.holds Tryz.pinned (OpenSpec.ofChange topSteamSpec)

/-- ITS FALSE NEIGHBOUR: 'it returns false'. Refute it at one input. -/
def topSteamWrong : ChangeSpec := { name := "topSteam", fn := fun _ => fun
  | [d1, d2, d3] => { results := [.lit (.bool false)], args := [d1, d2, d3] }
  | _ => none }
def TopSteamWrongFalsely : Prop := topSteamRow.holds Tryz.pinned (OpenSpec.ofChange topSteamWrong)

/- THE SECOND FORM. 'bulk': how many values and letters a reading holds, each counted each time it is reached (what is shared counts as often as it is met; a slice's spare places count too). A statement '..UptoSaid' is the law's where the arguments, and the package variables that the reading takes, are together of bulk at most 1048576: NARROWER than '..Said'. Prove '..Said' where nothing that the law and all that it calls make is longer than what came in: it says more and counts as full. Else prove '..UptoSaid'. A law counts once. -/
mutual
def uptoBulk {H : Type} : DataW H → Nat
  | .lit (.string bytes) => bytes.length + 1
  | .lit _ => 1
  | .nil => 1
  | .ptr d => uptoBulk d + 1
  | .slice elems spare => uptoBulkAll elems + uptoBulkAll spare + 1
  | .agg parts => uptoBulkAll parts + 1
  | .iface _ d => uptoBulk d + 1
  | .map entries => uptoBulkEntries entries + 1
  | .held _ => 1
def uptoBulkAll {H : Type} : List (DataW H) → Nat
  | [] => 0
  | d :: r => uptoBulk d + uptoBulkAll r
def uptoBulkEntries {H : Type} : List (Lit × DataW H) → Nat
  | [] => 0
  | x :: r => uptoBulkEntry x + uptoBulkEntries r
def uptoBulkEntry {H : Type} : Lit × DataW H → Nat
  | (.string bytes, d) => bytes.length + uptoBulk d + 1
  | (_, d) => uptoBulk d + 1
 end
def uptoSmall : (H : Type) → List (DataW H) → Bool := fun _ ds => decide (uptoBulkAll ds ≤ 1048576)
def OpenSpec.upto (s : _root_.Go.ChangeSpec) : _root_.Go.OpenSpec := { _root_.Go.OpenSpec.ofChange s with cond := some uptoSmall }

/-- 'ferrulelaw08.OrdersBest', WHERE WHAT IT READS IS OF BULK AT MOST 1048576: true; the input reads as it did. -/
def ordersBestUptoRow : OpenClaim := { program := "ythdggpljbnmffaagreat", sum := "a78bd6e5ee3b5ce697556005545f73c2352d4ad47aba50a43890a570184d364e", func := "ferrule/ferrulelaw08.OrdersBest", spec := "ordersBest", unfollowed := true, recurses := true, plainKeys := false, apart := false, narrowed := true }
def OrdersBestUptoSaid : Prop := ordersBestUptoRow.holds Tryz.pinned (OpenSpec.upto ordersBestSpec)

/-- 'ferrulelaw08.OrdersSpare', WHERE WHAT IT READS IS OF BULK AT MOST 1048576: true; the input reads as it did. -/
def ordersSpareUptoRow : OpenClaim := { program := "ythdggpljbnmffaagreat", sum := "a78bd6e5ee3b5ce697556005545f73c2352d4ad47aba50a43890a570184d364e", func := "ferrule/ferrulelaw08.OrdersSpare", spec := "ordersSpare", unfollowed := true, recurses := true, plainKeys := false, apart := false, narrowed := true }
def OrdersSpareUptoSaid : Prop := ordersSpareUptoRow.holds Tryz.pinned (OpenSpec.upto ordersSpareSpec)

/-- 'ferrulelaw08.OrdersWish', WHERE WHAT IT READS IS OF BULK AT MOST 1048576: true; the input reads as it did. -/
def ordersWishUptoRow : OpenClaim := { program := "ythdggpljbnmffaagreat", sum := "a78bd6e5ee3b5ce697556005545f73c2352d4ad47aba50a43890a570184d364e", func := "ferrule/ferrulelaw08.OrdersWish", spec := "ordersWish", unfollowed := true, recurses := true, plainKeys := false, apart := false, narrowed := true }
def OrdersWishUptoSaid : Prop := ordersWishUptoRow.holds Tryz.pinned (OpenSpec.upto ordersWishSpec)

/-- 'ferrulelaw08.OrdersOrder', WHERE WHAT IT READS IS OF BULK AT MOST 1048576: true; the input reads as it did. -/
def ordersOrderUptoRow : OpenClaim := { program := "ythdggpljbnmffaagreat", sum := "a78bd6e5ee3b5ce697556005545f73c2352d4ad47aba50a43890a570184d364e", func := "ferrule/ferrulelaw08.OrdersOrder", spec := "ordersOrder", unfollowed := true, recurses := true, plainKeys := false, apart := false, narrowed := true }
def OrdersOrderUptoSaid : Prop := ordersOrderUptoRow.holds Tryz.pinned (OpenSpec.upto ordersOrderSpec)

/-- 'ferrulelaw08.OrdersTime', WHERE WHAT IT READS IS OF BULK AT MOST 1048576: true; the input reads as it did. -/
def ordersTimeUptoRow : OpenClaim := { program := "ythdggpljbnmffaagreat", sum := "a78bd6e5ee3b5ce697556005545f73c2352d4ad47aba50a43890a570184d364e", func := "ferrule/ferrulelaw08.OrdersTime", spec := "ordersTime", unfollowed := true, recurses := true, plainKeys := false, apart := false, narrowed := true }
def OrdersTimeUptoSaid : Prop := ordersTimeUptoRow.holds Tryz.pinned (OpenSpec.upto ordersTimeSpec)

/-- 'ferrulelaw08.OrdersAll', WHERE WHAT IT READS IS OF BULK AT MOST 1048576: true; the input reads as it did. -/
def ordersAllUptoRow : OpenClaim := { program := "ythdggpljbnmffaagreat", sum := "a78bd6e5ee3b5ce697556005545f73c2352d4ad47aba50a43890a570184d364e", func := "ferrule/ferrulelaw08.OrdersAll", spec := "ordersAll", unfollowed := true, recurses := true, plainKeys := false, apart := false, narrowed := true }
def OrdersAllUptoSaid : Prop := ordersAllUptoRow.holds Tryz.pinned (OpenSpec.upto ordersAllSpec)

/-- 'ferrulelaw08.OrdersLost', WHERE WHAT IT READS IS OF BULK AT MOST 1048576: true; the input reads as it did. -/
def ordersLostUptoRow : OpenClaim := { program := "ythdggpljbnmffaagreat", sum := "a78bd6e5ee3b5ce697556005545f73c2352d4ad47aba50a43890a570184d364e", func := "ferrule/ferrulelaw08.OrdersLost", spec := "ordersLost", unfollowed := true, recurses := true, plainKeys := false, apart := false, narrowed := true }
def OrdersLostUptoSaid : Prop := ordersLostUptoRow.holds Tryz.pinned (OpenSpec.upto ordersLostSpec)

/-- 'ferrulelaw08.OrdersSuit', WHERE WHAT IT READS IS OF BULK AT MOST 1048576: true; the input reads as it did. -/
def ordersSuitUptoRow : OpenClaim := { program := "ythdggpljbnmffaagreat", sum := "a78bd6e5ee3b5ce697556005545f73c2352d4ad47aba50a43890a570184d364e", func := "ferrule/ferrulelaw08.OrdersSuit", spec := "ordersSuit", unfollowed := true, recurses := true, plainKeys := false, apart := false, narrowed := true }
def OrdersSuitUptoSaid : Prop := ordersSuitUptoRow.holds Tryz.pinned (OpenSpec.upto ordersSuitSpec)

/-- 'ferrulelaw08.OrdersMost', WHERE WHAT IT READS IS OF BULK AT MOST 1048576: true; the input reads as it did. -/
def ordersMostUptoRow : OpenClaim := { program := "ythdggpljbnmffaagreat", sum := "a78bd6e5ee3b5ce697556005545f73c2352d4ad47aba50a43890a570184d364e", func := "ferrule/ferrulelaw08.OrdersMost", spec := "ordersMost", unfollowed := true, recurses := true, plainKeys := false, apart := false, narrowed := true }
def OrdersMostUptoSaid : Prop := ordersMostUptoRow.holds Tryz.pinned (OpenSpec.upto ordersMostSpec)

/-- 'ferrulelaw08.OrdersTakes', WHERE WHAT IT READS IS OF BULK AT MOST 1048576: true; the input reads as it did. -/
def ordersTakesUptoRow : OpenClaim := { program := "ythdggpljbnmffaagreat", sum := "a78bd6e5ee3b5ce697556005545f73c2352d4ad47aba50a43890a570184d364e", func := "ferrule/ferrulelaw08.OrdersTakes", spec := "ordersTakes", unfollowed := true, recurses := true, plainKeys := false, apart := false, narrowed := true }
def OrdersTakesUptoSaid : Prop := ordersTakesUptoRow.holds Tryz.pinned (OpenSpec.upto ordersTakesSpec)

/-- 'ferrulelaw08.OrdersPlan', WHERE WHAT IT READS IS OF BULK AT MOST 1048576: true; the input reads as it did. -/
def ordersPlanUptoRow : OpenClaim := { program := "ythdggpljbnmffaagreat", sum := "a78bd6e5ee3b5ce697556005545f73c2352d4ad47aba50a43890a570184d364e", func := "ferrule/ferrulelaw08.OrdersPlan", spec := "ordersPlan", unfollowed := true, recurses := true, plainKeys := false, apart := false, narrowed := true }
def OrdersPlanUptoSaid : Prop := ordersPlanUptoRow.holds Tryz.pinned (OpenSpec.upto ordersPlanSpec)

/-- 'ferruletop.TopSteam', WHERE WHAT IT READS IS OF BULK AT MOST 1048576: true; the input reads as it did. -/
def topSteamUptoRow : OpenClaim := { program := "ythdggpljbnmffaagreat", sum := "a78bd6e5ee3b5ce697556005545f73c2352d4ad47aba50a43890a570184d364e", func := "ferrule/ferruletop.TopSteam", spec := "topSteam", unfollowed := true, recurses := true, plainKeys := false, apart := false, narrowed := true }
def TopSteamUptoSaid : Prop := topSteamUptoRow.holds Tryz.pinned (OpenSpec.upto topSteamSpec)

end Rows
end Go.Proofs.YthdggpljbnmffaaGreat
