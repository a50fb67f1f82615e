/-
  No cell of these rows narrows 'for every input' (looked for: loops, veiled, ifaces, maps, wideKeys, modest, calm, conditions, laid).
  DERIVED. THE GIVEN ROWS OF THIS SEAT. 10 by the template 'for every input the law returns true; each argument reads behind the call as it read before'; 0 by the template 'total and deterministic' (their statements: YthmgbfnjkiehcaaTotals.lean).
  GIVEN WITH THE SEED: the statements are not yours to turn. If you find one false, say at which input.
  Laid BY PROGRAM, IN A SANDBOX (cutbox-rows.mjs): the forced cells as the released guide's own fill.sh prints them over the translation 31282171e57018c8… (all of the seat's roots in one cut). By AI agents, Wed Nov 11 2026. No macro, syntax, notation, axiom, sorry.
-/
import Derived.Test.YthmgbfnjkiehcaaChecked
import GoSem.Claim
import GoSem.ClaimJoined
import GoSem.ClaimMapViews
import Derived.JoinedTies
import Derived.KernelRfl
namespace Go.Proofs.Ythmgbfnjkiehcaa
/- THE CELL 'sum', in the pinned program and in every row, IS THE sha256 OF THE DUMP (.gsa) THAT YthmgbfnjkiehcaaProg.lean LOADS. Nothing in Lean hashes anything: it is a label: what it is worth is what the hold of that sum in a sandbox is worth. -/
noncomputable def Try.pinned : Pinned := { name := "ythmgbfnjkiehcaa", sum := "31282171e57018c8ddbe7c4acd4b4269be4cbb444cf6ed60fafec24023437d21", checked := Try.checked }
namespace Rows
def none {H : Type} : Left H := { results := [], args := [] }

/-- 'laws.FnExactIsSpot': WHATEVER THE INPUT: true; the input reads as it did. -/
def fnExactIsSpotSpec : ChangeSpec := { name := "fnExactIsSpot", fn := fun _ => fun
  | [d] => { results := [.lit (.bool true)], args := [d] }
  | _ => none }
def fnExactIsSpotRow : OpenClaim := { program := "ythmgbfnjkiehcaa", sum := "31282171e57018c8ddbe7c4acd4b4269be4cbb444cf6ed60fafec24023437d21", func := "loop.example/g00939/laws.FnExactIsSpot", spec := "fnExactIsSpot", apart := false }
def FnExactIsSpotSaid : Prop := fnExactIsSpotRow.holds Try.pinned (OpenSpec.ofChange fnExactIsSpotSpec)

/-- ITS FALSE NEIGHBOUR: 'it returns false'. Refute it at one input. -/
def fnExactIsSpotWrong : ChangeSpec := { name := "fnExactIsSpot", fn := fun _ => fun
  | [d] => { results := [.lit (.bool false)], args := [d] }
  | _ => none }
def FnExactIsSpotWrongFalsely : Prop := fnExactIsSpotRow.holds Try.pinned (OpenSpec.ofChange fnExactIsSpotWrong)

/-- 'laws.FnExactSquareOf': WHATEVER THE INPUT: true; the input reads as it did. -/
def fnExactSquareOfSpec : ChangeSpec := { name := "fnExactSquareOf", fn := fun _ => fun
  | [d1, d2] => { results := [.lit (.bool true)], args := [d1, d2] }
  | _ => none }
def fnExactSquareOfRow : OpenClaim := { program := "ythmgbfnjkiehcaa", sum := "31282171e57018c8ddbe7c4acd4b4269be4cbb444cf6ed60fafec24023437d21", func := "loop.example/g00939/laws.FnExactSquareOf", spec := "fnExactSquareOf", apart := false }
def FnExactSquareOfSaid : Prop := fnExactSquareOfRow.holds Try.pinned (OpenSpec.ofChange fnExactSquareOfSpec)

/-- ITS FALSE NEIGHBOUR: 'it returns false'. Refute it at one input. -/
def fnExactSquareOfWrong : ChangeSpec := { name := "fnExactSquareOf", fn := fun _ => fun
  | [d1, d2] => { results := [.lit (.bool false)], args := [d1, d2] }
  | _ => none }
def FnExactSquareOfWrongFalsely : Prop := fnExactSquareOfRow.holds Try.pinned (OpenSpec.ofChange fnExactSquareOfWrong)

/-- 'laws.FnExactMoveSpot': WHATEVER THE INPUT: true; the input reads as it did. -/
def fnExactMoveSpotSpec : ChangeSpec := { name := "fnExactMoveSpot", fn := fun _ => fun
  | [d1, d2, d3] => { results := [.lit (.bool true)], args := [d1, d2, d3] }
  | _ => none }
def fnExactMoveSpotRow : OpenClaim := { program := "ythmgbfnjkiehcaa", sum := "31282171e57018c8ddbe7c4acd4b4269be4cbb444cf6ed60fafec24023437d21", func := "loop.example/g00939/laws.FnExactMoveSpot", spec := "fnExactMoveSpot", apart := false }
def FnExactMoveSpotSaid : Prop := fnExactMoveSpotRow.holds Try.pinned (OpenSpec.ofChange fnExactMoveSpotSpec)

/-- ITS FALSE NEIGHBOUR: 'it returns false'. Refute it at one input. -/
def fnExactMoveSpotWrong : ChangeSpec := { name := "fnExactMoveSpot", fn := fun _ => fun
  | [d1, d2, d3] => { results := [.lit (.bool false)], args := [d1, d2, d3] }
  | _ => none }
def FnExactMoveSpotWrongFalsely : Prop := fnExactMoveSpotRow.holds Try.pinned (OpenSpec.ofChange fnExactMoveSpotWrong)

/-- 'laws.FnExactMirrorSpot': WHATEVER THE INPUT: true; the input reads as it did. -/
def fnExactMirrorSpotSpec : ChangeSpec := { name := "fnExactMirrorSpot", fn := fun _ => fun
  | [d] => { results := [.lit (.bool true)], args := [d] }
  | _ => none }
def fnExactMirrorSpotRow : OpenClaim := { program := "ythmgbfnjkiehcaa", sum := "31282171e57018c8ddbe7c4acd4b4269be4cbb444cf6ed60fafec24023437d21", func := "loop.example/g00939/laws.FnExactMirrorSpot", spec := "fnExactMirrorSpot", apart := false }
def FnExactMirrorSpotSaid : Prop := fnExactMirrorSpotRow.holds Try.pinned (OpenSpec.ofChange fnExactMirrorSpotSpec)

/-- ITS FALSE NEIGHBOUR: 'it returns false'. Refute it at one input. -/
def fnExactMirrorSpotWrong : ChangeSpec := { name := "fnExactMirrorSpot", fn := fun _ => fun
  | [d] => { results := [.lit (.bool false)], args := [d] }
  | _ => none }
def FnExactMirrorSpotWrongFalsely : Prop := fnExactMirrorSpotRow.holds Try.pinned (OpenSpec.ofChange fnExactMirrorSpotWrong)

/-- 'laws.FnExactMiddleOf': WHATEVER THE INPUT: true; the input reads as it did. -/
def fnExactMiddleOfSpec : ChangeSpec := { name := "fnExactMiddleOf", fn := fun _ => fun
  | [d1, d2] => { results := [.lit (.bool true)], args := [d1, d2] }
  | _ => none }
def fnExactMiddleOfRow : OpenClaim := { program := "ythmgbfnjkiehcaa", sum := "31282171e57018c8ddbe7c4acd4b4269be4cbb444cf6ed60fafec24023437d21", func := "loop.example/g00939/laws.FnExactMiddleOf", spec := "fnExactMiddleOf", apart := false }
def FnExactMiddleOfSaid : Prop := fnExactMiddleOfRow.holds Try.pinned (OpenSpec.ofChange fnExactMiddleOfSpec)

/-- ITS FALSE NEIGHBOUR: 'it returns false'. Refute it at one input. -/
def fnExactMiddleOfWrong : ChangeSpec := { name := "fnExactMiddleOf", fn := fun _ => fun
  | [d1, d2] => { results := [.lit (.bool false)], args := [d1, d2] }
  | _ => none }
def FnExactMiddleOfWrongFalsely : Prop := fnExactMiddleOfRow.holds Try.pinned (OpenSpec.ofChange fnExactMiddleOfWrong)

/-- 'laws.FnExactNearestStep': WHATEVER THE INPUT: true; the input reads as it did. -/
def fnExactNearestStepSpec : ChangeSpec := { name := "fnExactNearestStep", fn := fun _ => fun
  | [d] => { results := [.lit (.bool true)], args := [d] }
  | _ => none }
def fnExactNearestStepRow : OpenClaim := { program := "ythmgbfnjkiehcaa", sum := "31282171e57018c8ddbe7c4acd4b4269be4cbb444cf6ed60fafec24023437d21", func := "loop.example/g00939/laws.FnExactNearestStep", spec := "fnExactNearestStep", apart := false }
def FnExactNearestStepSaid : Prop := fnExactNearestStepRow.holds Try.pinned (OpenSpec.ofChange fnExactNearestStepSpec)

/-- ITS FALSE NEIGHBOUR: 'it returns false'. Refute it at one input. -/
def fnExactNearestStepWrong : ChangeSpec := { name := "fnExactNearestStep", fn := fun _ => fun
  | [d] => { results := [.lit (.bool false)], args := [d] }
  | _ => none }
def FnExactNearestStepWrongFalsely : Prop := fnExactNearestStepRow.holds Try.pinned (OpenSpec.ofChange fnExactNearestStepWrong)

/-- 'laws.FnExactNearestOf': WHATEVER THE INPUT: true; the input reads as it did. -/
def fnExactNearestOfSpec : ChangeSpec := { name := "fnExactNearestOf", fn := fun _ => fun
  | [d1, d2] => { results := [.lit (.bool true)], args := [d1, d2] }
  | _ => none }
def fnExactNearestOfRow : OpenClaim := { program := "ythmgbfnjkiehcaa", sum := "31282171e57018c8ddbe7c4acd4b4269be4cbb444cf6ed60fafec24023437d21", func := "loop.example/g00939/laws.FnExactNearestOf", spec := "fnExactNearestOf", unfollowed := true, recurses := true, apart := false }
def FnExactNearestOfSaid : Prop := fnExactNearestOfRow.holds Try.pinned (OpenSpec.ofChange fnExactNearestOfSpec)

/-- ITS FALSE NEIGHBOUR: 'it returns false'. Refute it at one input. -/
def fnExactNearestOfWrong : ChangeSpec := { name := "fnExactNearestOf", fn := fun _ => fun
  | [d1, d2] => { results := [.lit (.bool false)], args := [d1, d2] }
  | _ => none }
def FnExactNearestOfWrongFalsely : Prop := fnExactNearestOfRow.holds Try.pinned (OpenSpec.ofChange fnExactNearestOfWrong)

/-- 'laws.FnExactSpotsWithin': WHATEVER THE INPUT: true; the input reads as it did. -/
def fnExactSpotsWithinSpec : ChangeSpec := { name := "fnExactSpotsWithin", fn := fun _ => fun
  | [d1, d2, d3] => { results := [.lit (.bool true)], args := [d1, d2, d3] }
  | _ => none }
def fnExactSpotsWithinRow : OpenClaim := { program := "ythmgbfnjkiehcaa", sum := "31282171e57018c8ddbe7c4acd4b4269be4cbb444cf6ed60fafec24023437d21", func := "loop.example/g00939/laws.FnExactSpotsWithin", spec := "fnExactSpotsWithin", unfollowed := true, recurses := true, apart := false }
def FnExactSpotsWithinSaid : Prop := fnExactSpotsWithinRow.holds Try.pinned (OpenSpec.ofChange fnExactSpotsWithinSpec)

/-- ITS FALSE NEIGHBOUR: 'it returns false'. Refute it at one input. -/
def fnExactSpotsWithinWrong : ChangeSpec := { name := "fnExactSpotsWithin", fn := fun _ => fun
  | [d1, d2, d3] => { results := [.lit (.bool false)], args := [d1, d2, d3] }
  | _ => none }
def FnExactSpotsWithinWrongFalsely : Prop := fnExactSpotsWithinRow.holds Try.pinned (OpenSpec.ofChange fnExactSpotsWithinWrong)

/-- 'laws.FnExactBetweenSpots': WHATEVER THE INPUT: true; the input reads as it did. -/
def fnExactBetweenSpotsSpec : ChangeSpec := { name := "fnExactBetweenSpots", fn := fun _ => fun
  | [d1, d2, d3] => { results := [.lit (.bool true)], args := [d1, d2, d3] }
  | _ => none }
def fnExactBetweenSpotsRow : OpenClaim := { program := "ythmgbfnjkiehcaa", sum := "31282171e57018c8ddbe7c4acd4b4269be4cbb444cf6ed60fafec24023437d21", func := "loop.example/g00939/laws.FnExactBetweenSpots", spec := "fnExactBetweenSpots", apart := false }
def FnExactBetweenSpotsSaid : Prop := fnExactBetweenSpotsRow.holds Try.pinned (OpenSpec.ofChange fnExactBetweenSpotsSpec)

/-- ITS FALSE NEIGHBOUR: 'it returns false'. Refute it at one input. -/
def fnExactBetweenSpotsWrong : ChangeSpec := { name := "fnExactBetweenSpots", fn := fun _ => fun
  | [d1, d2, d3] => { results := [.lit (.bool false)], args := [d1, d2, d3] }
  | _ => none }
def FnExactBetweenSpotsWrongFalsely : Prop := fnExactBetweenSpotsRow.holds Try.pinned (OpenSpec.ofChange fnExactBetweenSpotsWrong)

/-- 'laws.FnExactParseSpot': WHATEVER THE INPUT: true; the input reads as it did. -/
def fnExactParseSpotSpec : ChangeSpec := { name := "fnExactParseSpot", fn := fun _ => fun
  | [d] => { results := [.lit (.bool true)], args := [d] }
  | _ => none }
def fnExactParseSpotRow : OpenClaim := { program := "ythmgbfnjkiehcaa", sum := "31282171e57018c8ddbe7c4acd4b4269be4cbb444cf6ed60fafec24023437d21", func := "loop.example/g00939/laws.FnExactParseSpot", spec := "fnExactParseSpot", inPlace := ["internal/bytealg.IndexByteString", "internal/bytealg.IndexString"], recurses := true, named := ["internal/bytealg.MaxLen"], apart := false }
def FnExactParseSpotSaid : Prop := fnExactParseSpotRow.holds Try.pinned (OpenSpec.ofChange fnExactParseSpotSpec)

/-- ITS FALSE NEIGHBOUR: 'it returns false'. Refute it at one input. -/
def fnExactParseSpotWrong : ChangeSpec := { name := "fnExactParseSpot", fn := fun _ => fun
  | [d] => { results := [.lit (.bool false)], args := [d] }
  | _ => none }
def FnExactParseSpotWrongFalsely : Prop := fnExactParseSpotRow.holds Try.pinned (OpenSpec.ofChange fnExactParseSpotWrong)

/- THE SECOND FORM. 'bulk': how many values and letters a reading holds, each counted each time it is reached (what is shared counts as often as it is met; a slice's spare places count too). A statement '..UptoSaid' is the law's where the arguments, and the package variables that the reading takes, are together of bulk at most 1048576: NARROWER than '..Said'. Prove '..Said' where nothing that the law and all that it calls make is longer than what came in: it says more and counts as full. Else prove '..UptoSaid'. A law counts once. -/
mutual
def uptoBulk {H : Type} : DataW H → Nat
  | .lit (.string bytes) => bytes.length + 1
  | .lit _ => 1
  | .nil => 1
  | .ptr d => uptoBulk d + 1
  | .slice elems spare => uptoBulkAll elems + uptoBulkAll spare + 1
  | .agg parts => uptoBulkAll parts + 1
  | .iface _ d => uptoBulk d + 1
  | .map entries => uptoBulkEntries entries + 1
  | .held _ => 1
def uptoBulkAll {H : Type} : List (DataW H) → Nat
  | [] => 0
  | d :: r => uptoBulk d + uptoBulkAll r
def uptoBulkEntries {H : Type} : List (Lit × DataW H) → Nat
  | [] => 0
  | x :: r => uptoBulkEntry x + uptoBulkEntries r
def uptoBulkEntry {H : Type} : Lit × DataW H → Nat
  | (.string bytes, d) => bytes.length + uptoBulk d + 1
  | (_, d) => uptoBulk d + 1
 end
def uptoSmall : (H : Type) → List (DataW H) → Bool := fun _ ds => decide (uptoBulkAll ds ≤ 1048576)
def OpenSpec.upto (s : _root_.Go.ChangeSpec) : _root_.Go.OpenSpec := { _root_.Go.OpenSpec.ofChange s with cond := some uptoSmall }

/-- 'laws.FnExactIsSpot', WHERE WHAT IT READS IS OF BULK AT MOST 1048576: true; the input reads as it did. -/
def fnExactIsSpotUptoRow : OpenClaim := { program := "ythmgbfnjkiehcaa", sum := "31282171e57018c8ddbe7c4acd4b4269be4cbb444cf6ed60fafec24023437d21", func := "loop.example/g00939/laws.FnExactIsSpot", spec := "fnExactIsSpot", apart := false, narrowed := true }
def FnExactIsSpotUptoSaid : Prop := fnExactIsSpotUptoRow.holds Try.pinned (OpenSpec.upto fnExactIsSpotSpec)

/-- 'laws.FnExactSquareOf', WHERE WHAT IT READS IS OF BULK AT MOST 1048576: true; the input reads as it did. -/
def fnExactSquareOfUptoRow : OpenClaim := { program := "ythmgbfnjkiehcaa", sum := "31282171e57018c8ddbe7c4acd4b4269be4cbb444cf6ed60fafec24023437d21", func := "loop.example/g00939/laws.FnExactSquareOf", spec := "fnExactSquareOf", apart := false, narrowed := true }
def FnExactSquareOfUptoSaid : Prop := fnExactSquareOfUptoRow.holds Try.pinned (OpenSpec.upto fnExactSquareOfSpec)

/-- 'laws.FnExactMoveSpot', WHERE WHAT IT READS IS OF BULK AT MOST 1048576: true; the input reads as it did. -/
def fnExactMoveSpotUptoRow : OpenClaim := { program := "ythmgbfnjkiehcaa", sum := "31282171e57018c8ddbe7c4acd4b4269be4cbb444cf6ed60fafec24023437d21", func := "loop.example/g00939/laws.FnExactMoveSpot", spec := "fnExactMoveSpot", apart := false, narrowed := true }
def FnExactMoveSpotUptoSaid : Prop := fnExactMoveSpotUptoRow.holds Try.pinned (OpenSpec.upto fnExactMoveSpotSpec)

/-- 'laws.FnExactMirrorSpot', WHERE WHAT IT READS IS OF BULK AT MOST 1048576: true; the input reads as it did. -/
def fnExactMirrorSpotUptoRow : OpenClaim := { program := "ythmgbfnjkiehcaa", sum := "31282171e57018c8ddbe7c4acd4b4269be4cbb444cf6ed60fafec24023437d21", func := "loop.example/g00939/laws.FnExactMirrorSpot", spec := "fnExactMirrorSpot", apart := false, narrowed := true }
def FnExactMirrorSpotUptoSaid : Prop := fnExactMirrorSpotUptoRow.holds Try.pinned (OpenSpec.upto fnExactMirrorSpotSpec)

/-- 'laws.FnExactMiddleOf', WHERE WHAT IT READS IS OF BULK AT MOST 1048576: true; the input reads as it did. -/
def fnExactMiddleOfUptoRow : OpenClaim := { program := "ythmgbfnjkiehcaa", sum := "31282171e57018c8ddbe7c4acd4b4269be4cbb444cf6ed60fafec24023437d21", func := "loop.example/g00939/laws.FnExactMiddleOf", spec := "fnExactMiddleOf", apart := false, narrowed := true }
def FnExactMiddleOfUptoSaid : Prop := fnExactMiddleOfUptoRow.holds Try.pinned (OpenSpec.upto fnExactMiddleOfSpec)

/-- 'laws.FnExactNearestStep', WHERE WHAT IT READS IS OF BULK AT MOST 1048576: true; the input reads as it did. -/
def fnExactNearestStepUptoRow : OpenClaim := { program := "ythmgbfnjkiehcaa", sum := "31282171e57018c8ddbe7c4acd4b4269be4cbb444cf6ed60fafec24023437d21", func := "loop.example/g00939/laws.FnExactNearestStep", spec := "fnExactNearestStep", apart := false, narrowed := true }
def FnExactNearestStepUptoSaid : Prop := fnExactNearestStepUptoRow.holds Try.pinned (OpenSpec.upto fnExactNearestStepSpec)

/-- 'laws.FnExactNearestOf', WHERE WHAT IT READS IS OF BULK AT MOST 1048576: true; the input reads as it did. -/
def fnExactNearestOfUptoRow : OpenClaim := { program := "ythmgbfnjkiehcaa", sum := "31282171e57018c8ddbe7c4acd4b4269be4cbb444cf6ed60fafec24023437d21", func := "loop.example/g00939/laws.FnExactNearestOf", spec := "fnExactNearestOf", unfollowed := true, recurses := true, apart := false, narrowed := true }
def FnExactNearestOfUptoSaid : Prop := fnExactNearestOfUptoRow.holds Try.pinned (OpenSpec.upto fnExactNearestOfSpec)

/-- 'laws.FnExactSpotsWithin', WHERE WHAT IT READS IS OF BULK AT MOST 1048576: true; the input reads as it did. -/
def fnExactSpotsWithinUptoRow : OpenClaim := { program := "ythmgbfnjkiehcaa", sum := "31282171e57018c8ddbe7c4acd4b4269be4cbb444cf6ed60fafec24023437d21", func := "loop.example/g00939/laws.FnExactSpotsWithin", spec := "fnExactSpotsWithin", unfollowed := true, recurses := true, apart := false, narrowed := true }
def FnExactSpotsWithinUptoSaid : Prop := fnExactSpotsWithinUptoRow.holds Try.pinned (OpenSpec.upto fnExactSpotsWithinSpec)

/-- 'laws.FnExactBetweenSpots', WHERE WHAT IT READS IS OF BULK AT MOST 1048576: true; the input reads as it did. -/
def fnExactBetweenSpotsUptoRow : OpenClaim := { program := "ythmgbfnjkiehcaa", sum := "31282171e57018c8ddbe7c4acd4b4269be4cbb444cf6ed60fafec24023437d21", func := "loop.example/g00939/laws.FnExactBetweenSpots", spec := "fnExactBetweenSpots", apart := false, narrowed := true }
def FnExactBetweenSpotsUptoSaid : Prop := fnExactBetweenSpotsUptoRow.holds Try.pinned (OpenSpec.upto fnExactBetweenSpotsSpec)

/-- 'laws.FnExactParseSpot', WHERE WHAT IT READS IS OF BULK AT MOST 1048576: true; the input reads as it did. -/
def fnExactParseSpotUptoRow : OpenClaim := { program := "ythmgbfnjkiehcaa", sum := "31282171e57018c8ddbe7c4acd4b4269be4cbb444cf6ed60fafec24023437d21", func := "loop.example/g00939/laws.FnExactParseSpot", spec := "fnExactParseSpot", inPlace := ["internal/bytealg.IndexByteString", "internal/bytealg.IndexString"], recurses := true, named := ["internal/bytealg.MaxLen"], apart := false, narrowed := true }
def FnExactParseSpotUptoSaid : Prop := fnExactParseSpotUptoRow.holds Try.pinned (OpenSpec.upto fnExactParseSpotSpec)

end Rows
end Go.Proofs.Ythmgbfnjkiehcaa
