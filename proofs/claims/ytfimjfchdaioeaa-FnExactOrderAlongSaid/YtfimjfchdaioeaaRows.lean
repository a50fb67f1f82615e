/-
  No cell of these rows narrows 'for every input' (looked for: loops, veiled, ifaces, maps, wideKeys, modest, calm, conditions, laid).
  DERIVED. THE GIVEN ROWS OF THIS SEAT. 11 by the template 'for every input the law returns true; each argument reads behind the call as it read before'; 0 by the template 'total and deterministic' (their statements: YtfimjfchdaioeaaTotals.lean).
  GIVEN WITH THE SEED: the statements are not yours to turn. If you find one false, say at which input.
  Laid BY PROGRAM, IN A SANDBOX (cutbox-rows.mjs): the forced cells as the released guide's own fill.sh prints them over the translation ae2296cbccaac8f1… (all of the seat's roots in one cut). By AI agents, Wed Nov 11 2026. No macro, syntax, notation, axiom, sorry.
-/
import Derived.Test.YtfimjfchdaioeaaChecked
import GoSem.Claim
import GoSem.ClaimJoined
import GoSem.ClaimMapViews
import Derived.JoinedTies
import Derived.KernelRfl
namespace Go.Proofs.Ytfimjfchdaioeaa
/- THE CELL 'sum', in the pinned program and in every row, IS THE sha256 OF THE DUMP (.gsa) THAT YtfimjfchdaioeaaProg.lean LOADS. Nothing in Lean hashes anything: it is a label: what it is worth is what the hold of that sum in a sandbox is worth. -/
noncomputable def Try.pinned : Pinned := { name := "ytfimjfchdaioeaa", sum := "ae2296cbccaac8f1f70058aafe46ef7bf0bbf25a2a1bb410f29809ad1903fa78", checked := Try.checked }
namespace Rows
def none {H : Type} : Left H := { results := [], args := [] }

/-- 'laws.FnExactIsChart': WHATEVER THE INPUT: true; the input reads as it did. -/
def fnExactIsChartSpec : ChangeSpec := { name := "fnExactIsChart", fn := fun _ => fun
  | [d] => { results := [.lit (.bool true)], args := [d] }
  | _ => none }
def fnExactIsChartRow : OpenClaim := { program := "ytfimjfchdaioeaa", sum := "ae2296cbccaac8f1f70058aafe46ef7bf0bbf25a2a1bb410f29809ad1903fa78", func := "loop.example/g00939/laws.FnExactIsChart", spec := "fnExactIsChart", plainKeys := false, apart := false }
def FnExactIsChartSaid : Prop := fnExactIsChartRow.holds Try.pinned (OpenSpec.ofChange fnExactIsChartSpec)

/-- ITS FALSE NEIGHBOUR: 'it returns false'. Refute it at one input. -/
def fnExactIsChartWrong : ChangeSpec := { name := "fnExactIsChart", fn := fun _ => fun
  | [d] => { results := [.lit (.bool false)], args := [d] }
  | _ => none }
def FnExactIsChartWrongFalsely : Prop := fnExactIsChartRow.holds Try.pinned (OpenSpec.ofChange fnExactIsChartWrong)

/-- 'laws.FnExactLeastSquare': WHATEVER THE INPUT: true; the input reads as it did. -/
def fnExactLeastSquareSpec : ChangeSpec := { name := "fnExactLeastSquare", fn := fun _ => fun
  | [d] => { results := [.lit (.bool true)], args := [d] }
  | _ => none }
def fnExactLeastSquareRow : OpenClaim := { program := "ytfimjfchdaioeaa", sum := "ae2296cbccaac8f1f70058aafe46ef7bf0bbf25a2a1bb410f29809ad1903fa78", func := "loop.example/g00939/laws.FnExactLeastSquare", spec := "fnExactLeastSquare", plainKeys := false, apart := false }
def FnExactLeastSquareSaid : Prop := fnExactLeastSquareRow.holds Try.pinned (OpenSpec.ofChange fnExactLeastSquareSpec)

/-- ITS FALSE NEIGHBOUR: 'it returns false'. Refute it at one input. -/
def fnExactLeastSquareWrong : ChangeSpec := { name := "fnExactLeastSquare", fn := fun _ => fun
  | [d] => { results := [.lit (.bool false)], args := [d] }
  | _ => none }
def FnExactLeastSquareWrongFalsely : Prop := fnExactLeastSquareRow.holds Try.pinned (OpenSpec.ofChange fnExactLeastSquareWrong)

/-- 'laws.FnExactClosestPair': WHATEVER THE INPUT: true; the input reads as it did. -/
def fnExactClosestPairSpec : ChangeSpec := { name := "fnExactClosestPair", fn := fun _ => fun
  | [d] => { results := [.lit (.bool true)], args := [d] }
  | _ => none }
def fnExactClosestPairRow : OpenClaim := { program := "ytfimjfchdaioeaa", sum := "ae2296cbccaac8f1f70058aafe46ef7bf0bbf25a2a1bb410f29809ad1903fa78", func := "loop.example/g00939/laws.FnExactClosestPair", spec := "fnExactClosestPair", plainKeys := false, apart := false }
def FnExactClosestPairSaid : Prop := fnExactClosestPairRow.holds Try.pinned (OpenSpec.ofChange fnExactClosestPairSpec)

/-- ITS FALSE NEIGHBOUR: 'it returns false'. Refute it at one input. -/
def fnExactClosestPairWrong : ChangeSpec := { name := "fnExactClosestPair", fn := fun _ => fun
  | [d] => { results := [.lit (.bool false)], args := [d] }
  | _ => none }
def FnExactClosestPairWrongFalsely : Prop := fnExactClosestPairRow.holds Try.pinned (OpenSpec.ofChange fnExactClosestPairWrong)

/-- 'laws.FnExactMoveChart': WHATEVER THE INPUT: true; the input reads as it did. -/
def fnExactMoveChartSpec : ChangeSpec := { name := "fnExactMoveChart", fn := fun _ => fun
  | [d1, d2, d3] => { results := [.lit (.bool true)], args := [d1, d2, d3] }
  | _ => none }
def fnExactMoveChartRow : OpenClaim := { program := "ytfimjfchdaioeaa", sum := "ae2296cbccaac8f1f70058aafe46ef7bf0bbf25a2a1bb410f29809ad1903fa78", func := "loop.example/g00939/laws.FnExactMoveChart", spec := "fnExactMoveChart", unfollowed := true, recurses := true, plainKeys := false, apart := false }
def FnExactMoveChartSaid : Prop := fnExactMoveChartRow.holds Try.pinned (OpenSpec.ofChange fnExactMoveChartSpec)

/-- ITS FALSE NEIGHBOUR: 'it returns false'. Refute it at one input. -/
def fnExactMoveChartWrong : ChangeSpec := { name := "fnExactMoveChart", fn := fun _ => fun
  | [d1, d2, d3] => { results := [.lit (.bool false)], args := [d1, d2, d3] }
  | _ => none }
def FnExactMoveChartWrongFalsely : Prop := fnExactMoveChartRow.holds Try.pinned (OpenSpec.ofChange fnExactMoveChartWrong)

/-- 'laws.FnExactMirrorChart': WHATEVER THE INPUT: true; the input reads as it did. -/
def fnExactMirrorChartSpec : ChangeSpec := { name := "fnExactMirrorChart", fn := fun _ => fun
  | [d] => { results := [.lit (.bool true)], args := [d] }
  | _ => none }
def fnExactMirrorChartRow : OpenClaim := { program := "ytfimjfchdaioeaa", sum := "ae2296cbccaac8f1f70058aafe46ef7bf0bbf25a2a1bb410f29809ad1903fa78", func := "loop.example/g00939/laws.FnExactMirrorChart", spec := "fnExactMirrorChart", unfollowed := true, recurses := true, plainKeys := false, apart := false }
def FnExactMirrorChartSaid : Prop := fnExactMirrorChartRow.holds Try.pinned (OpenSpec.ofChange fnExactMirrorChartSpec)

/-- ITS FALSE NEIGHBOUR: 'it returns false'. Refute it at one input. -/
def fnExactMirrorChartWrong : ChangeSpec := { name := "fnExactMirrorChart", fn := fun _ => fun
  | [d] => { results := [.lit (.bool false)], args := [d] }
  | _ => none }
def FnExactMirrorChartWrongFalsely : Prop := fnExactMirrorChartRow.holds Try.pinned (OpenSpec.ofChange fnExactMirrorChartWrong)

/-- 'laws.FnExactSwapPerformers': WHATEVER THE INPUT: true; the input reads as it did. -/
def fnExactSwapPerformersSpec : ChangeSpec := { name := "fnExactSwapPerformers", fn := fun _ => fun
  | [d1, d2, d3] => { results := [.lit (.bool true)], args := [d1, d2, d3] }
  | _ => none }
def fnExactSwapPerformersRow : OpenClaim := { program := "ytfimjfchdaioeaa", sum := "ae2296cbccaac8f1f70058aafe46ef7bf0bbf25a2a1bb410f29809ad1903fa78", func := "loop.example/g00939/laws.FnExactSwapPerformers", spec := "fnExactSwapPerformers", plainKeys := false, apart := false }
def FnExactSwapPerformersSaid : Prop := fnExactSwapPerformersRow.holds Try.pinned (OpenSpec.ofChange fnExactSwapPerformersSpec)

/-- ITS FALSE NEIGHBOUR: 'it returns false'. Refute it at one input. -/
def fnExactSwapPerformersWrong : ChangeSpec := { name := "fnExactSwapPerformers", fn := fun _ => fun
  | [d1, d2, d3] => { results := [.lit (.bool false)], args := [d1, d2, d3] }
  | _ => none }
def FnExactSwapPerformersWrongFalsely : Prop := fnExactSwapPerformersRow.holds Try.pinned (OpenSpec.ofChange fnExactSwapPerformersWrong)

/-- 'laws.FnExactPlacePerformer': WHATEVER THE INPUT: true; the input reads as it did. -/
def fnExactPlacePerformerSpec : ChangeSpec := { name := "fnExactPlacePerformer", fn := fun _ => fun
  | [d1, d2, d3] => { results := [.lit (.bool true)], args := [d1, d2, d3] }
  | _ => none }
def fnExactPlacePerformerRow : OpenClaim := { program := "ytfimjfchdaioeaa", sum := "ae2296cbccaac8f1f70058aafe46ef7bf0bbf25a2a1bb410f29809ad1903fa78", func := "loop.example/g00939/laws.FnExactPlacePerformer", spec := "fnExactPlacePerformer", plainKeys := false, apart := false }
def FnExactPlacePerformerSaid : Prop := fnExactPlacePerformerRow.holds Try.pinned (OpenSpec.ofChange fnExactPlacePerformerSpec)

/-- ITS FALSE NEIGHBOUR: 'it returns false'. Refute it at one input. -/
def fnExactPlacePerformerWrong : ChangeSpec := { name := "fnExactPlacePerformer", fn := fun _ => fun
  | [d1, d2, d3] => { results := [.lit (.bool false)], args := [d1, d2, d3] }
  | _ => none }
def FnExactPlacePerformerWrongFalsely : Prop := fnExactPlacePerformerRow.holds Try.pinned (OpenSpec.ofChange fnExactPlacePerformerWrong)

/-- 'laws.FnExactChangedSpots': WHATEVER THE INPUT: true; the input reads as it did. -/
def fnExactChangedSpotsSpec : ChangeSpec := { name := "fnExactChangedSpots", fn := fun _ => fun
  | [d1, d2] => { results := [.lit (.bool true)], args := [d1, d2] }
  | _ => none }
def fnExactChangedSpotsRow : OpenClaim := { program := "ytfimjfchdaioeaa", sum := "ae2296cbccaac8f1f70058aafe46ef7bf0bbf25a2a1bb410f29809ad1903fa78", func := "loop.example/g00939/laws.FnExactChangedSpots", spec := "fnExactChangedSpots", plainKeys := false, apart := false }
def FnExactChangedSpotsSaid : Prop := fnExactChangedSpotsRow.holds Try.pinned (OpenSpec.ofChange fnExactChangedSpotsSpec)

/-- ITS FALSE NEIGHBOUR: 'it returns false'. Refute it at one input. -/
def fnExactChangedSpotsWrong : ChangeSpec := { name := "fnExactChangedSpots", fn := fun _ => fun
  | [d1, d2] => { results := [.lit (.bool false)], args := [d1, d2] }
  | _ => none }
def FnExactChangedSpotsWrongFalsely : Prop := fnExactChangedSpotsRow.holds Try.pinned (OpenSpec.ofChange fnExactChangedSpotsWrong)

/-- 'laws.FnExactSameForm': WHATEVER THE INPUT: true; the input reads as it did. -/
def fnExactSameFormSpec : ChangeSpec := { name := "fnExactSameForm", fn := fun _ => fun
  | [d1, d2] => { results := [.lit (.bool true)], args := [d1, d2] }
  | _ => none }
def fnExactSameFormRow : OpenClaim := { program := "ytfimjfchdaioeaa", sum := "ae2296cbccaac8f1f70058aafe46ef7bf0bbf25a2a1bb410f29809ad1903fa78", func := "loop.example/g00939/laws.FnExactSameForm", spec := "fnExactSameForm", unfollowed := true, recurses := true, plainKeys := false, apart := false }
def FnExactSameFormSaid : Prop := fnExactSameFormRow.holds Try.pinned (OpenSpec.ofChange fnExactSameFormSpec)

/-- ITS FALSE NEIGHBOUR: 'it returns false'. Refute it at one input. -/
def fnExactSameFormWrong : ChangeSpec := { name := "fnExactSameForm", fn := fun _ => fun
  | [d1, d2] => { results := [.lit (.bool false)], args := [d1, d2] }
  | _ => none }
def FnExactSameFormWrongFalsely : Prop := fnExactSameFormRow.holds Try.pinned (OpenSpec.ofChange fnExactSameFormWrong)

/-- 'laws.FnExactOrderAlong': WHATEVER THE INPUT: true; the input reads as it did. -/
def fnExactOrderAlongSpec : ChangeSpec := { name := "fnExactOrderAlong", fn := fun _ => fun
  | [d] => { results := [.lit (.bool true)], args := [d] }
  | _ => none }
def fnExactOrderAlongRow : OpenClaim := { program := "ytfimjfchdaioeaa", sum := "ae2296cbccaac8f1f70058aafe46ef7bf0bbf25a2a1bb410f29809ad1903fa78", func := "loop.example/g00939/laws.FnExactOrderAlong", spec := "fnExactOrderAlong", unfollowed := true, recurses := true, plainKeys := false, apart := false }
def FnExactOrderAlongSaid : Prop := fnExactOrderAlongRow.holds Try.pinned (OpenSpec.ofChange fnExactOrderAlongSpec)

/-- ITS FALSE NEIGHBOUR: 'it returns false'. Refute it at one input. -/
def fnExactOrderAlongWrong : ChangeSpec := { name := "fnExactOrderAlong", fn := fun _ => fun
  | [d] => { results := [.lit (.bool false)], args := [d] }
  | _ => none }
def FnExactOrderAlongWrongFalsely : Prop := fnExactOrderAlongRow.holds Try.pinned (OpenSpec.ofChange fnExactOrderAlongWrong)

/-- 'laws.FnExactParseChart': WHATEVER THE INPUT: true; the input reads as it did. -/
def fnExactParseChartSpec : ChangeSpec := { name := "fnExactParseChart", fn := fun _ => fun
  | [d] => { results := [.lit (.bool true)], args := [d] }
  | _ => none }
def fnExactParseChartRow : OpenClaim := { program := "ytfimjfchdaioeaa", sum := "ae2296cbccaac8f1f70058aafe46ef7bf0bbf25a2a1bb410f29809ad1903fa78", func := "loop.example/g00939/laws.FnExactParseChart", spec := "fnExactParseChart", inPlace := ["internal/bytealg.IndexByteString", "internal/bytealg.IndexString"], unfollowed := true, recurses := true, named := ["internal/bytealg.MaxLen"], plainKeys := false, apart := false }
def FnExactParseChartSaid : Prop := fnExactParseChartRow.holds Try.pinned (OpenSpec.ofChange fnExactParseChartSpec)

/-- ITS FALSE NEIGHBOUR: 'it returns false'. Refute it at one input. -/
def fnExactParseChartWrong : ChangeSpec := { name := "fnExactParseChart", fn := fun _ => fun
  | [d] => { results := [.lit (.bool false)], args := [d] }
  | _ => none }
def FnExactParseChartWrongFalsely : Prop := fnExactParseChartRow.holds Try.pinned (OpenSpec.ofChange fnExactParseChartWrong)

/- THE SECOND FORM. 'bulk': how many values and letters a reading holds, each counted each time it is reached (what is shared counts as often as it is met; a slice's spare places count too). A statement '..UptoSaid' is the law's where the arguments, and the package variables that the reading takes, are together of bulk at most 1048576: NARROWER than '..Said'. Prove '..Said' where nothing that the law and all that it calls make is longer than what came in: it says more and counts as full. Else prove '..UptoSaid'. A law counts once. -/
mutual
def uptoBulk {H : Type} : DataW H → Nat
  | .lit (.string bytes) => bytes.length + 1
  | .lit _ => 1
  | .nil => 1
  | .ptr d => uptoBulk d + 1
  | .slice elems spare => uptoBulkAll elems + uptoBulkAll spare + 1
  | .agg parts => uptoBulkAll parts + 1
  | .iface _ d => uptoBulk d + 1
  | .map entries => uptoBulkEntries entries + 1
  | .held _ => 1
def uptoBulkAll {H : Type} : List (DataW H) → Nat
  | [] => 0
  | d :: r => uptoBulk d + uptoBulkAll r
def uptoBulkEntries {H : Type} : List (Lit × DataW H) → Nat
  | [] => 0
  | x :: r => uptoBulkEntry x + uptoBulkEntries r
def uptoBulkEntry {H : Type} : Lit × DataW H → Nat
  | (.string bytes, d) => bytes.length + uptoBulk d + 1
  | (_, d) => uptoBulk d + 1
 end
def uptoSmall : (H : Type) → List (DataW H) → Bool := fun _ ds => decide (uptoBulkAll ds ≤ 1048576)
def OpenSpec.upto (s : _root_.Go.ChangeSpec) : _root_.Go.OpenSpec := { _root_.Go.OpenSpec.ofChange s with cond := some uptoSmall }

/-- 'laws.FnExactIsChart', WHERE WHAT IT READS IS OF BULK AT MOST 1048576: true; the input reads as it did. -/
def fnExactIsChartUptoRow : OpenClaim := { program := "ytfimjfchdaioeaa", sum := "ae2296cbccaac8f1f70058aafe46ef7bf0bbf25a2a1bb410f29809ad1903fa78", func := "loop.example/g00939/laws.FnExactIsChart", spec := "fnExactIsChart", plainKeys := false, apart := false, narrowed := true }
def FnExactIsChartUptoSaid : Prop := fnExactIsChartUptoRow.holds Try.pinned (OpenSpec.upto fnExactIsChartSpec)

/-- 'laws.FnExactLeastSquare', WHERE WHAT IT READS IS OF BULK AT MOST 1048576: true; the input reads as it did. -/
def fnExactLeastSquareUptoRow : OpenClaim := { program := "ytfimjfchdaioeaa", sum := "ae2296cbccaac8f1f70058aafe46ef7bf0bbf25a2a1bb410f29809ad1903fa78", func := "loop.example/g00939/laws.FnExactLeastSquare", spec := "fnExactLeastSquare", plainKeys := false, apart := false, narrowed := true }
def FnExactLeastSquareUptoSaid : Prop := fnExactLeastSquareUptoRow.holds Try.pinned (OpenSpec.upto fnExactLeastSquareSpec)

/-- 'laws.FnExactClosestPair', WHERE WHAT IT READS IS OF BULK AT MOST 1048576: true; the input reads as it did. -/
def fnExactClosestPairUptoRow : OpenClaim := { program := "ytfimjfchdaioeaa", sum := "ae2296cbccaac8f1f70058aafe46ef7bf0bbf25a2a1bb410f29809ad1903fa78", func := "loop.example/g00939/laws.FnExactClosestPair", spec := "fnExactClosestPair", plainKeys := false, apart := false, narrowed := true }
def FnExactClosestPairUptoSaid : Prop := fnExactClosestPairUptoRow.holds Try.pinned (OpenSpec.upto fnExactClosestPairSpec)

/-- 'laws.FnExactMoveChart', WHERE WHAT IT READS IS OF BULK AT MOST 1048576: true; the input reads as it did. -/
def fnExactMoveChartUptoRow : OpenClaim := { program := "ytfimjfchdaioeaa", sum := "ae2296cbccaac8f1f70058aafe46ef7bf0bbf25a2a1bb410f29809ad1903fa78", func := "loop.example/g00939/laws.FnExactMoveChart", spec := "fnExactMoveChart", unfollowed := true, recurses := true, plainKeys := false, apart := false, narrowed := true }
def FnExactMoveChartUptoSaid : Prop := fnExactMoveChartUptoRow.holds Try.pinned (OpenSpec.upto fnExactMoveChartSpec)

/-- 'laws.FnExactMirrorChart', WHERE WHAT IT READS IS OF BULK AT MOST 1048576: true; the input reads as it did. -/
def fnExactMirrorChartUptoRow : OpenClaim := { program := "ytfimjfchdaioeaa", sum := "ae2296cbccaac8f1f70058aafe46ef7bf0bbf25a2a1bb410f29809ad1903fa78", func := "loop.example/g00939/laws.FnExactMirrorChart", spec := "fnExactMirrorChart", unfollowed := true, recurses := true, plainKeys := false, apart := false, narrowed := true }
def FnExactMirrorChartUptoSaid : Prop := fnExactMirrorChartUptoRow.holds Try.pinned (OpenSpec.upto fnExactMirrorChartSpec)

/-- 'laws.FnExactSwapPerformers', WHERE WHAT IT READS IS OF BULK AT MOST 1048576: true; the input reads as it did. -/
def fnExactSwapPerformersUptoRow : OpenClaim := { program := "ytfimjfchdaioeaa", sum := "ae2296cbccaac8f1f70058aafe46ef7bf0bbf25a2a1bb410f29809ad1903fa78", func := "loop.example/g00939/laws.FnExactSwapPerformers", spec := "fnExactSwapPerformers", plainKeys := false, apart := false, narrowed := true }
def FnExactSwapPerformersUptoSaid : Prop := fnExactSwapPerformersUptoRow.holds Try.pinned (OpenSpec.upto fnExactSwapPerformersSpec)

/-- 'laws.FnExactPlacePerformer', WHERE WHAT IT READS IS OF BULK AT MOST 1048576: true; the input reads as it did. -/
def fnExactPlacePerformerUptoRow : OpenClaim := { program := "ytfimjfchdaioeaa", sum := "ae2296cbccaac8f1f70058aafe46ef7bf0bbf25a2a1bb410f29809ad1903fa78", func := "loop.example/g00939/laws.FnExactPlacePerformer", spec := "fnExactPlacePerformer", plainKeys := false, apart := false, narrowed := true }
def FnExactPlacePerformerUptoSaid : Prop := fnExactPlacePerformerUptoRow.holds Try.pinned (OpenSpec.upto fnExactPlacePerformerSpec)

/-- 'laws.FnExactChangedSpots', WHERE WHAT IT READS IS OF BULK AT MOST 1048576: true; the input reads as it did. -/
def fnExactChangedSpotsUptoRow : OpenClaim := { program := "ytfimjfchdaioeaa", sum := "ae2296cbccaac8f1f70058aafe46ef7bf0bbf25a2a1bb410f29809ad1903fa78", func := "loop.example/g00939/laws.FnExactChangedSpots", spec := "fnExactChangedSpots", plainKeys := false, apart := false, narrowed := true }
def FnExactChangedSpotsUptoSaid : Prop := fnExactChangedSpotsUptoRow.holds Try.pinned (OpenSpec.upto fnExactChangedSpotsSpec)

/-- 'laws.FnExactSameForm', WHERE WHAT IT READS IS OF BULK AT MOST 1048576: true; the input reads as it did. -/
def fnExactSameFormUptoRow : OpenClaim := { program := "ytfimjfchdaioeaa", sum := "ae2296cbccaac8f1f70058aafe46ef7bf0bbf25a2a1bb410f29809ad1903fa78", func := "loop.example/g00939/laws.FnExactSameForm", spec := "fnExactSameForm", unfollowed := true, recurses := true, plainKeys := false, apart := false, narrowed := true }
def FnExactSameFormUptoSaid : Prop := fnExactSameFormUptoRow.holds Try.pinned (OpenSpec.upto fnExactSameFormSpec)

/-- 'laws.FnExactOrderAlong', WHERE WHAT IT READS IS OF BULK AT MOST 1048576: true; the input reads as it did. -/
def fnExactOrderAlongUptoRow : OpenClaim := { program := "ytfimjfchdaioeaa", sum := "ae2296cbccaac8f1f70058aafe46ef7bf0bbf25a2a1bb410f29809ad1903fa78", func := "loop.example/g00939/laws.FnExactOrderAlong", spec := "fnExactOrderAlong", unfollowed := true, recurses := true, plainKeys := false, apart := false, narrowed := true }
def FnExactOrderAlongUptoSaid : Prop := fnExactOrderAlongUptoRow.holds Try.pinned (OpenSpec.upto fnExactOrderAlongSpec)

/-- 'laws.FnExactParseChart', WHERE WHAT IT READS IS OF BULK AT MOST 1048576: true; the input reads as it did. -/
def fnExactParseChartUptoRow : OpenClaim := { program := "ytfimjfchdaioeaa", sum := "ae2296cbccaac8f1f70058aafe46ef7bf0bbf25a2a1bb410f29809ad1903fa78", func := "loop.example/g00939/laws.FnExactParseChart", spec := "fnExactParseChart", inPlace := ["internal/bytealg.IndexByteString", "internal/bytealg.IndexString"], unfollowed := true, recurses := true, named := ["internal/bytealg.MaxLen"], plainKeys := false, apart := false, narrowed := true }
def FnExactParseChartUptoSaid : Prop := fnExactParseChartUptoRow.holds Try.pinned (OpenSpec.upto fnExactParseChartSpec)

end Rows
end Go.Proofs.Ytfimjfchdaioeaa
