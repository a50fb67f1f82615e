/-
  No cell of these rows narrows 'for every input' (looked for: loops, veiled, ifaces, maps, wideKeys, modest, calm, conditions, laid).
  DERIVED. THE GIVEN ROWS OF THIS SEAT. 10 by the template 'for every input the law returns true; each argument reads behind the call as it read before'; 0 by the template 'total and deterministic' (their statements: YtjdpbjpeohdoiaaTotals.lean).
  GIVEN WITH THE SEED: the statements are not yours to turn. If you find one false, say at which input.
  Laid BY PROGRAM, IN A SANDBOX (cutbox-rows.mjs): the forced cells as the released guide's own fill.sh prints them over the translation 45cc2f5d594e491b… (all of the seat's roots in one cut). By AI agents, Wed Nov 11 2026. No macro, syntax, notation, axiom, sorry.
-/
import Derived.Test.YtjdpbjpeohdoiaaChecked
import GoSem.Claim
import GoSem.ClaimJoined
import GoSem.ClaimMapViews
import Derived.JoinedTies
import Derived.KernelRfl
namespace Go.Proofs.Ytjdpbjpeohdoiaa
/- THE CELL 'sum', in the pinned program and in every row, IS THE sha256 OF THE DUMP (.gsa) THAT YtjdpbjpeohdoiaaProg.lean LOADS. Nothing in Lean hashes anything: it is a label: what it is worth is what the hold of that sum in a sandbox is worth. -/
noncomputable def Try.pinned : Pinned := { name := "ytjdpbjpeohdoiaa", sum := "45cc2f5d594e491b2645c2c87717197b458f8f675dd5e0485799c8a639cf7f80", checked := Try.checked }
namespace Rows
def none {H : Type} : Left H := { results := [], args := [] }

/-- 'laws.FnExactRootOf': WHATEVER THE INPUT: true; the input reads as it did. -/
def fnExactRootOfSpec : ChangeSpec := { name := "fnExactRootOf", fn := fun _ => fun
  | [d] => { results := [.lit (.bool true)], args := [d] }
  | _ => none }
def fnExactRootOfRow : OpenClaim := { program := "ytjdpbjpeohdoiaa", sum := "45cc2f5d594e491b2645c2c87717197b458f8f675dd5e0485799c8a639cf7f80", func := "loop.example/g00939/laws.FnExactRootOf", spec := "fnExactRootOf", inPlace := ["math.sqrt"], unfollowed := true, recurses := true, apart := false }
def FnExactRootOfSaid : Prop := fnExactRootOfRow.holds Try.pinned (OpenSpec.ofChange fnExactRootOfSpec)

/-- ITS FALSE NEIGHBOUR: 'it returns false'. Refute it at one input. -/
def fnExactRootOfWrong : ChangeSpec := { name := "fnExactRootOf", fn := fun _ => fun
  | [d] => { results := [.lit (.bool false)], args := [d] }
  | _ => none }
def FnExactRootOfWrongFalsely : Prop := fnExactRootOfRow.holds Try.pinned (OpenSpec.ofChange fnExactRootOfWrong)

/-- 'laws.FnExactOnArc': WHATEVER THE INPUT: true; the input reads as it did. -/
def fnExactOnArcSpec : ChangeSpec := { name := "fnExactOnArc", fn := fun _ => fun
  | [d1, d2, d3] => { results := [.lit (.bool true)], args := [d1, d2, d3] }
  | _ => none }
def fnExactOnArcRow : OpenClaim := { program := "ytjdpbjpeohdoiaa", sum := "45cc2f5d594e491b2645c2c87717197b458f8f675dd5e0485799c8a639cf7f80", func := "loop.example/g00939/laws.FnExactOnArc", spec := "fnExactOnArc", inPlace := ["math.sqrt"], unfollowed := true, recurses := true, apart := false }
def FnExactOnArcSaid : Prop := fnExactOnArcRow.holds Try.pinned (OpenSpec.ofChange fnExactOnArcSpec)

/-- ITS FALSE NEIGHBOUR: 'it returns false'. Refute it at one input. -/
def fnExactOnArcWrong : ChangeSpec := { name := "fnExactOnArc", fn := fun _ => fun
  | [d1, d2, d3] => { results := [.lit (.bool false)], args := [d1, d2, d3] }
  | _ => none }
def FnExactOnArcWrongFalsely : Prop := fnExactOnArcRow.holds Try.pinned (OpenSpec.ofChange fnExactOnArcWrong)

/-- 'laws.FnExactArcSpots': WHATEVER THE INPUT: true; the input reads as it did. -/
def fnExactArcSpotsSpec : ChangeSpec := { name := "fnExactArcSpots", fn := fun _ => fun
  | [d1, d2, d3, d4, d5] => { results := [.lit (.bool true)], args := [d1, d2, d3, d4, d5] }
  | _ => none }
def fnExactArcSpotsRow : OpenClaim := { program := "ytjdpbjpeohdoiaa", sum := "45cc2f5d594e491b2645c2c87717197b458f8f675dd5e0485799c8a639cf7f80", func := "loop.example/g00939/laws.FnExactArcSpots", spec := "fnExactArcSpots", inPlace := ["math.sqrt"], unfollowed := true, recurses := true, apart := false }
def FnExactArcSpotsSaid : Prop := fnExactArcSpotsRow.holds Try.pinned (OpenSpec.ofChange fnExactArcSpotsSpec)

/-- ITS FALSE NEIGHBOUR: 'it returns false'. Refute it at one input. -/
def fnExactArcSpotsWrong : ChangeSpec := { name := "fnExactArcSpots", fn := fun _ => fun
  | [d1, d2, d3, d4, d5] => { results := [.lit (.bool false)], args := [d1, d2, d3, d4, d5] }
  | _ => none }
def FnExactArcSpotsWrongFalsely : Prop := fnExactArcSpotsRow.holds Try.pinned (OpenSpec.ofChange fnExactArcSpotsWrong)

/-- 'laws.FnExactRadiusOf': WHATEVER THE INPUT: true; the input reads as it did. -/
def fnExactRadiusOfSpec : ChangeSpec := { name := "fnExactRadiusOf", fn := fun _ => fun
  | [d1, d2] => { results := [.lit (.bool true)], args := [d1, d2] }
  | _ => none }
def fnExactRadiusOfRow : OpenClaim := { program := "ytjdpbjpeohdoiaa", sum := "45cc2f5d594e491b2645c2c87717197b458f8f675dd5e0485799c8a639cf7f80", func := "loop.example/g00939/laws.FnExactRadiusOf", spec := "fnExactRadiusOf", inPlace := ["math.sqrt"], unfollowed := true, recurses := true, apart := false }
def FnExactRadiusOfSaid : Prop := fnExactRadiusOfRow.holds Try.pinned (OpenSpec.ofChange fnExactRadiusOfSpec)

/-- ITS FALSE NEIGHBOUR: 'it returns false'. Refute it at one input. -/
def fnExactRadiusOfWrong : ChangeSpec := { name := "fnExactRadiusOf", fn := fun _ => fun
  | [d1, d2] => { results := [.lit (.bool false)], args := [d1, d2] }
  | _ => none }
def FnExactRadiusOfWrongFalsely : Prop := fnExactRadiusOfRow.holds Try.pinned (OpenSpec.ofChange fnExactRadiusOfWrong)

/-- 'laws.FnExactNearArc': WHATEVER THE INPUT: true; the input reads as it did. -/
def fnExactNearArcSpec : ChangeSpec := { name := "fnExactNearArc", fn := fun _ => fun
  | [d1, d2, d3, d4] => { results := [.lit (.bool true)], args := [d1, d2, d3, d4] }
  | _ => none }
def fnExactNearArcRow : OpenClaim := { program := "ytjdpbjpeohdoiaa", sum := "45cc2f5d594e491b2645c2c87717197b458f8f675dd5e0485799c8a639cf7f80", func := "loop.example/g00939/laws.FnExactNearArc", spec := "fnExactNearArc", apart := false }
def FnExactNearArcSaid : Prop := fnExactNearArcRow.holds Try.pinned (OpenSpec.ofChange fnExactNearArcSpec)

/-- ITS FALSE NEIGHBOUR: 'it returns false'. Refute it at one input. -/
def fnExactNearArcWrong : ChangeSpec := { name := "fnExactNearArc", fn := fun _ => fun
  | [d1, d2, d3, d4] => { results := [.lit (.bool false)], args := [d1, d2, d3, d4] }
  | _ => none }
def FnExactNearArcWrongFalsely : Prop := fnExactNearArcRow.holds Try.pinned (OpenSpec.ofChange fnExactNearArcWrong)

/-- 'laws.FnExactChordOf': WHATEVER THE INPUT: true; the input reads as it did. -/
def fnExactChordOfSpec : ChangeSpec := { name := "fnExactChordOf", fn := fun _ => fun
  | [d1, d2] => { results := [.lit (.bool true)], args := [d1, d2] }
  | _ => none }
def fnExactChordOfRow : OpenClaim := { program := "ytjdpbjpeohdoiaa", sum := "45cc2f5d594e491b2645c2c87717197b458f8f675dd5e0485799c8a639cf7f80", func := "loop.example/g00939/laws.FnExactChordOf", spec := "fnExactChordOf", inPlace := ["math.sqrt"], unfollowed := true, recurses := true, apart := false }
def FnExactChordOfSaid : Prop := fnExactChordOfRow.holds Try.pinned (OpenSpec.ofChange fnExactChordOfSpec)

/-- ITS FALSE NEIGHBOUR: 'it returns false'. Refute it at one input. -/
def fnExactChordOfWrong : ChangeSpec := { name := "fnExactChordOf", fn := fun _ => fun
  | [d1, d2] => { results := [.lit (.bool false)], args := [d1, d2] }
  | _ => none }
def FnExactChordOfWrongFalsely : Prop := fnExactChordOfRow.holds Try.pinned (OpenSpec.ofChange fnExactChordOfWrong)

/-- 'laws.FnExactQuarterTurn': WHATEVER THE INPUT: true; the input reads as it did. -/
def fnExactQuarterTurnSpec : ChangeSpec := { name := "fnExactQuarterTurn", fn := fun _ => fun
  | [d1, d2] => { results := [.lit (.bool true)], args := [d1, d2] }
  | _ => none }
def fnExactQuarterTurnRow : OpenClaim := { program := "ytjdpbjpeohdoiaa", sum := "45cc2f5d594e491b2645c2c87717197b458f8f675dd5e0485799c8a639cf7f80", func := "loop.example/g00939/laws.FnExactQuarterTurn", spec := "fnExactQuarterTurn", apart := false }
def FnExactQuarterTurnSaid : Prop := fnExactQuarterTurnRow.holds Try.pinned (OpenSpec.ofChange fnExactQuarterTurnSpec)

/-- ITS FALSE NEIGHBOUR: 'it returns false'. Refute it at one input. -/
def fnExactQuarterTurnWrong : ChangeSpec := { name := "fnExactQuarterTurn", fn := fun _ => fun
  | [d1, d2] => { results := [.lit (.bool false)], args := [d1, d2] }
  | _ => none }
def FnExactQuarterTurnWrongFalsely : Prop := fnExactQuarterTurnRow.holds Try.pinned (OpenSpec.ofChange fnExactQuarterTurnWrong)

/-- 'laws.FnExactCircleSpots': WHATEVER THE INPUT: true; the input reads as it did. -/
def fnExactCircleSpotsSpec : ChangeSpec := { name := "fnExactCircleSpots", fn := fun _ => fun
  | [d1, d2] => { results := [.lit (.bool true)], args := [d1, d2] }
  | _ => none }
def fnExactCircleSpotsRow : OpenClaim := { program := "ytjdpbjpeohdoiaa", sum := "45cc2f5d594e491b2645c2c87717197b458f8f675dd5e0485799c8a639cf7f80", func := "loop.example/g00939/laws.FnExactCircleSpots", spec := "fnExactCircleSpots", inPlace := ["math.sqrt"], unfollowed := true, recurses := true, apart := false }
def FnExactCircleSpotsSaid : Prop := fnExactCircleSpotsRow.holds Try.pinned (OpenSpec.ofChange fnExactCircleSpotsSpec)

/-- ITS FALSE NEIGHBOUR: 'it returns false'. Refute it at one input. -/
def fnExactCircleSpotsWrong : ChangeSpec := { name := "fnExactCircleSpots", fn := fun _ => fun
  | [d1, d2] => { results := [.lit (.bool false)], args := [d1, d2] }
  | _ => none }
def FnExactCircleSpotsWrongFalsely : Prop := fnExactCircleSpotsRow.holds Try.pinned (OpenSpec.ofChange fnExactCircleSpotsWrong)

/-- 'laws.FnExactLeastGap': WHATEVER THE INPUT: true; the input reads as it did. -/
def fnExactLeastGapSpec : ChangeSpec := { name := "fnExactLeastGap", fn := fun _ => fun
  | [d] => { results := [.lit (.bool true)], args := [d] }
  | _ => none }
def fnExactLeastGapRow : OpenClaim := { program := "ytjdpbjpeohdoiaa", sum := "45cc2f5d594e491b2645c2c87717197b458f8f675dd5e0485799c8a639cf7f80", func := "loop.example/g00939/laws.FnExactLeastGap", spec := "fnExactLeastGap", apart := false }
def FnExactLeastGapSaid : Prop := fnExactLeastGapRow.holds Try.pinned (OpenSpec.ofChange fnExactLeastGapSpec)

/-- ITS FALSE NEIGHBOUR: 'it returns false'. Refute it at one input. -/
def fnExactLeastGapWrong : ChangeSpec := { name := "fnExactLeastGap", fn := fun _ => fun
  | [d] => { results := [.lit (.bool false)], args := [d] }
  | _ => none }
def FnExactLeastGapWrongFalsely : Prop := fnExactLeastGapRow.holds Try.pinned (OpenSpec.ofChange fnExactLeastGapWrong)

/-- 'laws.FnExactMiddleOfCircle': WHATEVER THE INPUT: true; the input reads as it did. -/
def fnExactMiddleOfCircleSpec : ChangeSpec := { name := "fnExactMiddleOfCircle", fn := fun _ => fun
  | [d1, d2, d3] => { results := [.lit (.bool true)], args := [d1, d2, d3] }
  | _ => none }
def fnExactMiddleOfCircleRow : OpenClaim := { program := "ytjdpbjpeohdoiaa", sum := "45cc2f5d594e491b2645c2c87717197b458f8f675dd5e0485799c8a639cf7f80", func := "loop.example/g00939/laws.FnExactMiddleOfCircle", spec := "fnExactMiddleOfCircle", apart := false }
def FnExactMiddleOfCircleSaid : Prop := fnExactMiddleOfCircleRow.holds Try.pinned (OpenSpec.ofChange fnExactMiddleOfCircleSpec)

/-- ITS FALSE NEIGHBOUR: 'it returns false'. Refute it at one input. -/
def fnExactMiddleOfCircleWrong : ChangeSpec := { name := "fnExactMiddleOfCircle", fn := fun _ => fun
  | [d1, d2, d3] => { results := [.lit (.bool false)], args := [d1, d2, d3] }
  | _ => none }
def FnExactMiddleOfCircleWrongFalsely : Prop := fnExactMiddleOfCircleRow.holds Try.pinned (OpenSpec.ofChange fnExactMiddleOfCircleWrong)

/- THE SECOND FORM. 'bulk': how many values and letters a reading holds, each counted each time it is reached (what is shared counts as often as it is met; a slice's spare places count too). A statement '..UptoSaid' is the law's where the arguments, and the package variables that the reading takes, are together of bulk at most 1048576: NARROWER than '..Said'. Prove '..Said' where nothing that the law and all that it calls make is longer than what came in: it says more and counts as full. Else prove '..UptoSaid'. A law counts once. -/
mutual
def uptoBulk {H : Type} : DataW H → Nat
  | .lit (.string bytes) => bytes.length + 1
  | .lit _ => 1
  | .nil => 1
  | .ptr d => uptoBulk d + 1
  | .slice elems spare => uptoBulkAll elems + uptoBulkAll spare + 1
  | .agg parts => uptoBulkAll parts + 1
  | .iface _ d => uptoBulk d + 1
  | .map entries => uptoBulkEntries entries + 1
  | .held _ => 1
def uptoBulkAll {H : Type} : List (DataW H) → Nat
  | [] => 0
  | d :: r => uptoBulk d + uptoBulkAll r
def uptoBulkEntries {H : Type} : List (Lit × DataW H) → Nat
  | [] => 0
  | x :: r => uptoBulkEntry x + uptoBulkEntries r
def uptoBulkEntry {H : Type} : Lit × DataW H → Nat
  | (.string bytes, d) => bytes.length + uptoBulk d + 1
  | (_, d) => uptoBulk d + 1
 end
def uptoSmall : (H : Type) → List (DataW H) → Bool := fun _ ds => decide (uptoBulkAll ds ≤ 1048576)
def OpenSpec.upto (s : _root_.Go.ChangeSpec) : _root_.Go.OpenSpec := { _root_.Go.OpenSpec.ofChange s with cond := some uptoSmall }

/-- 'laws.FnExactRootOf', WHERE WHAT IT READS IS OF BULK AT MOST 1048576: true; the input reads as it did. -/
def fnExactRootOfUptoRow : OpenClaim := { program := "ytjdpbjpeohdoiaa", sum := "45cc2f5d594e491b2645c2c87717197b458f8f675dd5e0485799c8a639cf7f80", func := "loop.example/g00939/laws.FnExactRootOf", spec := "fnExactRootOf", inPlace := ["math.sqrt"], unfollowed := true, recurses := true, apart := false, narrowed := true }
def FnExactRootOfUptoSaid : Prop := fnExactRootOfUptoRow.holds Try.pinned (OpenSpec.upto fnExactRootOfSpec)

/-- 'laws.FnExactOnArc', WHERE WHAT IT READS IS OF BULK AT MOST 1048576: true; the input reads as it did. -/
def fnExactOnArcUptoRow : OpenClaim := { program := "ytjdpbjpeohdoiaa", sum := "45cc2f5d594e491b2645c2c87717197b458f8f675dd5e0485799c8a639cf7f80", func := "loop.example/g00939/laws.FnExactOnArc", spec := "fnExactOnArc", inPlace := ["math.sqrt"], unfollowed := true, recurses := true, apart := false, narrowed := true }
def FnExactOnArcUptoSaid : Prop := fnExactOnArcUptoRow.holds Try.pinned (OpenSpec.upto fnExactOnArcSpec)

/-- 'laws.FnExactArcSpots', WHERE WHAT IT READS IS OF BULK AT MOST 1048576: true; the input reads as it did. -/
def fnExactArcSpotsUptoRow : OpenClaim := { program := "ytjdpbjpeohdoiaa", sum := "45cc2f5d594e491b2645c2c87717197b458f8f675dd5e0485799c8a639cf7f80", func := "loop.example/g00939/laws.FnExactArcSpots", spec := "fnExactArcSpots", inPlace := ["math.sqrt"], unfollowed := true, recurses := true, apart := false, narrowed := true }
def FnExactArcSpotsUptoSaid : Prop := fnExactArcSpotsUptoRow.holds Try.pinned (OpenSpec.upto fnExactArcSpotsSpec)

/-- 'laws.FnExactRadiusOf', WHERE WHAT IT READS IS OF BULK AT MOST 1048576: true; the input reads as it did. -/
def fnExactRadiusOfUptoRow : OpenClaim := { program := "ytjdpbjpeohdoiaa", sum := "45cc2f5d594e491b2645c2c87717197b458f8f675dd5e0485799c8a639cf7f80", func := "loop.example/g00939/laws.FnExactRadiusOf", spec := "fnExactRadiusOf", inPlace := ["math.sqrt"], unfollowed := true, recurses := true, apart := false, narrowed := true }
def FnExactRadiusOfUptoSaid : Prop := fnExactRadiusOfUptoRow.holds Try.pinned (OpenSpec.upto fnExactRadiusOfSpec)

/-- 'laws.FnExactNearArc', WHERE WHAT IT READS IS OF BULK AT MOST 1048576: true; the input reads as it did. -/
def fnExactNearArcUptoRow : OpenClaim := { program := "ytjdpbjpeohdoiaa", sum := "45cc2f5d594e491b2645c2c87717197b458f8f675dd5e0485799c8a639cf7f80", func := "loop.example/g00939/laws.FnExactNearArc", spec := "fnExactNearArc", apart := false, narrowed := true }
def FnExactNearArcUptoSaid : Prop := fnExactNearArcUptoRow.holds Try.pinned (OpenSpec.upto fnExactNearArcSpec)

/-- 'laws.FnExactChordOf', WHERE WHAT IT READS IS OF BULK AT MOST 1048576: true; the input reads as it did. -/
def fnExactChordOfUptoRow : OpenClaim := { program := "ytjdpbjpeohdoiaa", sum := "45cc2f5d594e491b2645c2c87717197b458f8f675dd5e0485799c8a639cf7f80", func := "loop.example/g00939/laws.FnExactChordOf", spec := "fnExactChordOf", inPlace := ["math.sqrt"], unfollowed := true, recurses := true, apart := false, narrowed := true }
def FnExactChordOfUptoSaid : Prop := fnExactChordOfUptoRow.holds Try.pinned (OpenSpec.upto fnExactChordOfSpec)

/-- 'laws.FnExactQuarterTurn', WHERE WHAT IT READS IS OF BULK AT MOST 1048576: true; the input reads as it did. -/
def fnExactQuarterTurnUptoRow : OpenClaim := { program := "ytjdpbjpeohdoiaa", sum := "45cc2f5d594e491b2645c2c87717197b458f8f675dd5e0485799c8a639cf7f80", func := "loop.example/g00939/laws.FnExactQuarterTurn", spec := "fnExactQuarterTurn", apart := false, narrowed := true }
def FnExactQuarterTurnUptoSaid : Prop := fnExactQuarterTurnUptoRow.holds Try.pinned (OpenSpec.upto fnExactQuarterTurnSpec)

/-- 'laws.FnExactCircleSpots', WHERE WHAT IT READS IS OF BULK AT MOST 1048576: true; the input reads as it did. -/
def fnExactCircleSpotsUptoRow : OpenClaim := { program := "ytjdpbjpeohdoiaa", sum := "45cc2f5d594e491b2645c2c87717197b458f8f675dd5e0485799c8a639cf7f80", func := "loop.example/g00939/laws.FnExactCircleSpots", spec := "fnExactCircleSpots", inPlace := ["math.sqrt"], unfollowed := true, recurses := true, apart := false, narrowed := true }
def FnExactCircleSpotsUptoSaid : Prop := fnExactCircleSpotsUptoRow.holds Try.pinned (OpenSpec.upto fnExactCircleSpotsSpec)

/-- 'laws.FnExactLeastGap', WHERE WHAT IT READS IS OF BULK AT MOST 1048576: true; the input reads as it did. -/
def fnExactLeastGapUptoRow : OpenClaim := { program := "ytjdpbjpeohdoiaa", sum := "45cc2f5d594e491b2645c2c87717197b458f8f675dd5e0485799c8a639cf7f80", func := "loop.example/g00939/laws.FnExactLeastGap", spec := "fnExactLeastGap", apart := false, narrowed := true }
def FnExactLeastGapUptoSaid : Prop := fnExactLeastGapUptoRow.holds Try.pinned (OpenSpec.upto fnExactLeastGapSpec)

/-- 'laws.FnExactMiddleOfCircle', WHERE WHAT IT READS IS OF BULK AT MOST 1048576: true; the input reads as it did. -/
def fnExactMiddleOfCircleUptoRow : OpenClaim := { program := "ytjdpbjpeohdoiaa", sum := "45cc2f5d594e491b2645c2c87717197b458f8f675dd5e0485799c8a639cf7f80", func := "loop.example/g00939/laws.FnExactMiddleOfCircle", spec := "fnExactMiddleOfCircle", apart := false, narrowed := true }
def FnExactMiddleOfCircleUptoSaid : Prop := fnExactMiddleOfCircleUptoRow.holds Try.pinned (OpenSpec.upto fnExactMiddleOfCircleSpec)

end Rows
end Go.Proofs.Ytjdpbjpeohdoiaa
