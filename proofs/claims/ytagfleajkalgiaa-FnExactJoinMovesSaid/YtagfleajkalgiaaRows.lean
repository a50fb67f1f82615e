/-
  No cell of these rows narrows 'for every input' (looked for: loops, veiled, ifaces, maps, wideKeys, modest, calm, conditions, laid).
  DERIVED. THE GIVEN ROWS OF THIS SEAT. 9 by the template 'for every input the law returns true; each argument reads behind the call as it read before'; 0 by the template 'total and deterministic' (their statements: YtagfleajkalgiaaTotals.lean).
  GIVEN WITH THE SEED: the statements are not yours to turn. If you find one false, say at which input.
  Laid BY PROGRAM, IN A SANDBOX (cutbox-rows.mjs): the forced cells as the released guide's own fill.sh prints them over the translation 445851004cd08cae… (all of the seat's roots in one cut). By AI agents, Wed Nov 11 2026. No macro, syntax, notation, axiom, sorry.
-/
import Derived.Test.YtagfleajkalgiaaChecked
import GoSem.Claim
import GoSem.ClaimJoined
import GoSem.ClaimMapViews
import Derived.JoinedTies
import Derived.KernelRfl
namespace Go.Proofs.Ytagfleajkalgiaa
/- THE CELL 'sum', in the pinned program and in every row, IS THE sha256 OF THE DUMP (.gsa) THAT YtagfleajkalgiaaProg.lean LOADS. Nothing in Lean hashes anything: it is a label: what it is worth is what the hold of that sum in a sandbox is worth. -/
noncomputable def Try.pinned : Pinned := { name := "ytagfleajkalgiaa", sum := "445851004cd08cae75e2d8a3a421bfeffc4c887c95ec5c420c71e9b3e0303e0e", checked := Try.checked }
namespace Rows
def none {H : Type} : Left H := { results := [], args := [] }

/-- 'laws.FnExactIsMove': WHATEVER THE INPUT: true; the input reads as it did. -/
def fnExactIsMoveSpec : ChangeSpec := { name := "fnExactIsMove", fn := fun _ => fun
  | [d] => { results := [.lit (.bool true)], args := [d] }
  | _ => none }
def fnExactIsMoveRow : OpenClaim := { program := "ytagfleajkalgiaa", sum := "445851004cd08cae75e2d8a3a421bfeffc4c887c95ec5c420c71e9b3e0303e0e", func := "loop.example/g00939/laws.FnExactIsMove", spec := "fnExactIsMove", apart := false }
def FnExactIsMoveSaid : Prop := fnExactIsMoveRow.holds Try.pinned (OpenSpec.ofChange fnExactIsMoveSpec)

/-- ITS FALSE NEIGHBOUR: 'it returns false'. Refute it at one input. -/
def fnExactIsMoveWrong : ChangeSpec := { name := "fnExactIsMove", fn := fun _ => fun
  | [d] => { results := [.lit (.bool false)], args := [d] }
  | _ => none }
def FnExactIsMoveWrongFalsely : Prop := fnExactIsMoveRow.holds Try.pinned (OpenSpec.ofChange fnExactIsMoveWrong)

/-- 'laws.FnExactPlaceAt': WHATEVER THE INPUT: true; the input reads as it did. -/
def fnExactPlaceAtSpec : ChangeSpec := { name := "fnExactPlaceAt", fn := fun _ => fun
  | [d1, d2] => { results := [.lit (.bool true)], args := [d1, d2] }
  | _ => none }
def fnExactPlaceAtRow : OpenClaim := { program := "ytagfleajkalgiaa", sum := "445851004cd08cae75e2d8a3a421bfeffc4c887c95ec5c420c71e9b3e0303e0e", func := "loop.example/g00939/laws.FnExactPlaceAt", spec := "fnExactPlaceAt", apart := false }
def FnExactPlaceAtSaid : Prop := fnExactPlaceAtRow.holds Try.pinned (OpenSpec.ofChange fnExactPlaceAtSpec)

/-- ITS FALSE NEIGHBOUR: 'it returns false'. Refute it at one input. -/
def fnExactPlaceAtWrong : ChangeSpec := { name := "fnExactPlaceAt", fn := fun _ => fun
  | [d1, d2] => { results := [.lit (.bool false)], args := [d1, d2] }
  | _ => none }
def FnExactPlaceAtWrongFalsely : Prop := fnExactPlaceAtRow.holds Try.pinned (OpenSpec.ofChange fnExactPlaceAtWrong)

/-- 'laws.FnExactRoundedAt': WHATEVER THE INPUT: true; the input reads as it did. -/
def fnExactRoundedAtSpec : ChangeSpec := { name := "fnExactRoundedAt", fn := fun _ => fun
  | [d1, d2] => { results := [.lit (.bool true)], args := [d1, d2] }
  | _ => none }
def fnExactRoundedAtRow : OpenClaim := { program := "ytagfleajkalgiaa", sum := "445851004cd08cae75e2d8a3a421bfeffc4c887c95ec5c420c71e9b3e0303e0e", func := "loop.example/g00939/laws.FnExactRoundedAt", spec := "fnExactRoundedAt", apart := false }
def FnExactRoundedAtSaid : Prop := fnExactRoundedAtRow.holds Try.pinned (OpenSpec.ofChange fnExactRoundedAtSpec)

/-- ITS FALSE NEIGHBOUR: 'it returns false'. Refute it at one input. -/
def fnExactRoundedAtWrong : ChangeSpec := { name := "fnExactRoundedAt", fn := fun _ => fun
  | [d1, d2] => { results := [.lit (.bool false)], args := [d1, d2] }
  | _ => none }
def FnExactRoundedAtWrongFalsely : Prop := fnExactRoundedAtRow.holds Try.pinned (OpenSpec.ofChange fnExactRoundedAtWrong)

/-- 'laws.FnExactStepSquare': WHATEVER THE INPUT: true; the input reads as it did. -/
def fnExactStepSquareSpec : ChangeSpec := { name := "fnExactStepSquare", fn := fun _ => fun
  | [d] => { results := [.lit (.bool true)], args := [d] }
  | _ => none }
def fnExactStepSquareRow : OpenClaim := { program := "ytagfleajkalgiaa", sum := "445851004cd08cae75e2d8a3a421bfeffc4c887c95ec5c420c71e9b3e0303e0e", func := "loop.example/g00939/laws.FnExactStepSquare", spec := "fnExactStepSquare", apart := false }
def FnExactStepSquareSaid : Prop := fnExactStepSquareRow.holds Try.pinned (OpenSpec.ofChange fnExactStepSquareSpec)

/-- ITS FALSE NEIGHBOUR: 'it returns false'. Refute it at one input. -/
def fnExactStepSquareWrong : ChangeSpec := { name := "fnExactStepSquare", fn := fun _ => fun
  | [d] => { results := [.lit (.bool false)], args := [d] }
  | _ => none }
def FnExactStepSquareWrongFalsely : Prop := fnExactStepSquareRow.holds Try.pinned (OpenSpec.ofChange fnExactStepSquareWrong)

/-- 'laws.FnExactReverseMove': WHATEVER THE INPUT: true; the input reads as it did. -/
def fnExactReverseMoveSpec : ChangeSpec := { name := "fnExactReverseMove", fn := fun _ => fun
  | [d] => { results := [.lit (.bool true)], args := [d] }
  | _ => none }
def fnExactReverseMoveRow : OpenClaim := { program := "ytagfleajkalgiaa", sum := "445851004cd08cae75e2d8a3a421bfeffc4c887c95ec5c420c71e9b3e0303e0e", func := "loop.example/g00939/laws.FnExactReverseMove", spec := "fnExactReverseMove", apart := false }
def FnExactReverseMoveSaid : Prop := fnExactReverseMoveRow.holds Try.pinned (OpenSpec.ofChange fnExactReverseMoveSpec)

/-- ITS FALSE NEIGHBOUR: 'it returns false'. Refute it at one input. -/
def fnExactReverseMoveWrong : ChangeSpec := { name := "fnExactReverseMove", fn := fun _ => fun
  | [d] => { results := [.lit (.bool false)], args := [d] }
  | _ => none }
def FnExactReverseMoveWrongFalsely : Prop := fnExactReverseMoveRow.holds Try.pinned (OpenSpec.ofChange fnExactReverseMoveWrong)

/-- 'laws.FnExactSplitMove': WHATEVER THE INPUT: true; the input reads as it did. -/
def fnExactSplitMoveSpec : ChangeSpec := { name := "fnExactSplitMove", fn := fun _ => fun
  | [d1, d2] => { results := [.lit (.bool true)], args := [d1, d2] }
  | _ => none }
def fnExactSplitMoveRow : OpenClaim := { program := "ytagfleajkalgiaa", sum := "445851004cd08cae75e2d8a3a421bfeffc4c887c95ec5c420c71e9b3e0303e0e", func := "loop.example/g00939/laws.FnExactSplitMove", spec := "fnExactSplitMove", apart := false }
def FnExactSplitMoveSaid : Prop := fnExactSplitMoveRow.holds Try.pinned (OpenSpec.ofChange fnExactSplitMoveSpec)

/-- ITS FALSE NEIGHBOUR: 'it returns false'. Refute it at one input. -/
def fnExactSplitMoveWrong : ChangeSpec := { name := "fnExactSplitMove", fn := fun _ => fun
  | [d1, d2] => { results := [.lit (.bool false)], args := [d1, d2] }
  | _ => none }
def FnExactSplitMoveWrongFalsely : Prop := fnExactSplitMoveRow.holds Try.pinned (OpenSpec.ofChange fnExactSplitMoveWrong)

/-- 'laws.FnExactJoinMoves': WHATEVER THE INPUT: true; the input reads as it did. -/
def fnExactJoinMovesSpec : ChangeSpec := { name := "fnExactJoinMoves", fn := fun _ => fun
  | [d1, d2] => { results := [.lit (.bool true)], args := [d1, d2] }
  | _ => none }
def fnExactJoinMovesRow : OpenClaim := { program := "ytagfleajkalgiaa", sum := "445851004cd08cae75e2d8a3a421bfeffc4c887c95ec5c420c71e9b3e0303e0e", func := "loop.example/g00939/laws.FnExactJoinMoves", spec := "fnExactJoinMoves", apart := false }
def FnExactJoinMovesSaid : Prop := fnExactJoinMovesRow.holds Try.pinned (OpenSpec.ofChange fnExactJoinMovesSpec)

/-- ITS FALSE NEIGHBOUR: 'it returns false'. Refute it at one input. -/
def fnExactJoinMovesWrong : ChangeSpec := { name := "fnExactJoinMoves", fn := fun _ => fun
  | [d1, d2] => { results := [.lit (.bool false)], args := [d1, d2] }
  | _ => none }
def FnExactJoinMovesWrongFalsely : Prop := fnExactJoinMovesRow.holds Try.pinned (OpenSpec.ofChange fnExactJoinMovesWrong)

/-- 'laws.FnExactWholeCounts': WHATEVER THE INPUT: true; the input reads as it did. -/
def fnExactWholeCountsSpec : ChangeSpec := { name := "fnExactWholeCounts", fn := fun _ => fun
  | [d] => { results := [.lit (.bool true)], args := [d] }
  | _ => none }
def fnExactWholeCountsRow : OpenClaim := { program := "ytagfleajkalgiaa", sum := "445851004cd08cae75e2d8a3a421bfeffc4c887c95ec5c420c71e9b3e0303e0e", func := "loop.example/g00939/laws.FnExactWholeCounts", spec := "fnExactWholeCounts", apart := false }
def FnExactWholeCountsSaid : Prop := fnExactWholeCountsRow.holds Try.pinned (OpenSpec.ofChange fnExactWholeCountsSpec)

/-- ITS FALSE NEIGHBOUR: 'it returns false'. Refute it at one input. -/
def fnExactWholeCountsWrong : ChangeSpec := { name := "fnExactWholeCounts", fn := fun _ => fun
  | [d] => { results := [.lit (.bool false)], args := [d] }
  | _ => none }
def FnExactWholeCountsWrongFalsely : Prop := fnExactWholeCountsRow.holds Try.pinned (OpenSpec.ofChange fnExactWholeCountsWrong)

/-- 'laws.FnExactParseMove': WHATEVER THE INPUT: true; the input reads as it did. -/
def fnExactParseMoveSpec : ChangeSpec := { name := "fnExactParseMove", fn := fun _ => fun
  | [d] => { results := [.lit (.bool true)], args := [d] }
  | _ => none }
def fnExactParseMoveRow : OpenClaim := { program := "ytagfleajkalgiaa", sum := "445851004cd08cae75e2d8a3a421bfeffc4c887c95ec5c420c71e9b3e0303e0e", func := "loop.example/g00939/laws.FnExactParseMove", spec := "fnExactParseMove", inPlace := ["internal/bytealg.IndexByteString", "internal/bytealg.IndexString"], recurses := true, named := ["internal/bytealg.MaxLen"], apart := false }
def FnExactParseMoveSaid : Prop := fnExactParseMoveRow.holds Try.pinned (OpenSpec.ofChange fnExactParseMoveSpec)

/-- ITS FALSE NEIGHBOUR: 'it returns false'. Refute it at one input. -/
def fnExactParseMoveWrong : ChangeSpec := { name := "fnExactParseMove", fn := fun _ => fun
  | [d] => { results := [.lit (.bool false)], args := [d] }
  | _ => none }
def FnExactParseMoveWrongFalsely : Prop := fnExactParseMoveRow.holds Try.pinned (OpenSpec.ofChange fnExactParseMoveWrong)

/- THE SECOND FORM. 'bulk': how many values and letters a reading holds, each counted each time it is reached (what is shared counts as often as it is met; a slice's spare places count too). A statement '..UptoSaid' is the law's where the arguments, and the package variables that the reading takes, are together of bulk at most 1048576: NARROWER than '..Said'. Prove '..Said' where nothing that the law and all that it calls make is longer than what came in: it says more and counts as full. Else prove '..UptoSaid'. A law counts once. -/
mutual
def uptoBulk {H : Type} : DataW H → Nat
  | .lit (.string bytes) => bytes.length + 1
  | .lit _ => 1
  | .nil => 1
  | .ptr d => uptoBulk d + 1
  | .slice elems spare => uptoBulkAll elems + uptoBulkAll spare + 1
  | .agg parts => uptoBulkAll parts + 1
  | .iface _ d => uptoBulk d + 1
  | .map entries => uptoBulkEntries entries + 1
  | .held _ => 1
def uptoBulkAll {H : Type} : List (DataW H) → Nat
  | [] => 0
  | d :: r => uptoBulk d + uptoBulkAll r
def uptoBulkEntries {H : Type} : List (Lit × DataW H) → Nat
  | [] => 0
  | x :: r => uptoBulkEntry x + uptoBulkEntries r
def uptoBulkEntry {H : Type} : Lit × DataW H → Nat
  | (.string bytes, d) => bytes.length + uptoBulk d + 1
  | (_, d) => uptoBulk d + 1
 end
def uptoSmall : (H : Type) → List (DataW H) → Bool := fun _ ds => decide (uptoBulkAll ds ≤ 1048576)
def OpenSpec.upto (s : _root_.Go.ChangeSpec) : _root_.Go.OpenSpec := { _root_.Go.OpenSpec.ofChange s with cond := some uptoSmall }

/-- 'laws.FnExactIsMove', WHERE WHAT IT READS IS OF BULK AT MOST 1048576: true; the input reads as it did. -/
def fnExactIsMoveUptoRow : OpenClaim := { program := "ytagfleajkalgiaa", sum := "445851004cd08cae75e2d8a3a421bfeffc4c887c95ec5c420c71e9b3e0303e0e", func := "loop.example/g00939/laws.FnExactIsMove", spec := "fnExactIsMove", apart := false, narrowed := true }
def FnExactIsMoveUptoSaid : Prop := fnExactIsMoveUptoRow.holds Try.pinned (OpenSpec.upto fnExactIsMoveSpec)

/-- 'laws.FnExactPlaceAt', WHERE WHAT IT READS IS OF BULK AT MOST 1048576: true; the input reads as it did. -/
def fnExactPlaceAtUptoRow : OpenClaim := { program := "ytagfleajkalgiaa", sum := "445851004cd08cae75e2d8a3a421bfeffc4c887c95ec5c420c71e9b3e0303e0e", func := "loop.example/g00939/laws.FnExactPlaceAt", spec := "fnExactPlaceAt", apart := false, narrowed := true }
def FnExactPlaceAtUptoSaid : Prop := fnExactPlaceAtUptoRow.holds Try.pinned (OpenSpec.upto fnExactPlaceAtSpec)

/-- 'laws.FnExactRoundedAt', WHERE WHAT IT READS IS OF BULK AT MOST 1048576: true; the input reads as it did. -/
def fnExactRoundedAtUptoRow : OpenClaim := { program := "ytagfleajkalgiaa", sum := "445851004cd08cae75e2d8a3a421bfeffc4c887c95ec5c420c71e9b3e0303e0e", func := "loop.example/g00939/laws.FnExactRoundedAt", spec := "fnExactRoundedAt", apart := false, narrowed := true }
def FnExactRoundedAtUptoSaid : Prop := fnExactRoundedAtUptoRow.holds Try.pinned (OpenSpec.upto fnExactRoundedAtSpec)

/-- 'laws.FnExactStepSquare', WHERE WHAT IT READS IS OF BULK AT MOST 1048576: true; the input reads as it did. -/
def fnExactStepSquareUptoRow : OpenClaim := { program := "ytagfleajkalgiaa", sum := "445851004cd08cae75e2d8a3a421bfeffc4c887c95ec5c420c71e9b3e0303e0e", func := "loop.example/g00939/laws.FnExactStepSquare", spec := "fnExactStepSquare", apart := false, narrowed := true }
def FnExactStepSquareUptoSaid : Prop := fnExactStepSquareUptoRow.holds Try.pinned (OpenSpec.upto fnExactStepSquareSpec)

/-- 'laws.FnExactReverseMove', WHERE WHAT IT READS IS OF BULK AT MOST 1048576: true; the input reads as it did. -/
def fnExactReverseMoveUptoRow : OpenClaim := { program := "ytagfleajkalgiaa", sum := "445851004cd08cae75e2d8a3a421bfeffc4c887c95ec5c420c71e9b3e0303e0e", func := "loop.example/g00939/laws.FnExactReverseMove", spec := "fnExactReverseMove", apart := false, narrowed := true }
def FnExactReverseMoveUptoSaid : Prop := fnExactReverseMoveUptoRow.holds Try.pinned (OpenSpec.upto fnExactReverseMoveSpec)

/-- 'laws.FnExactSplitMove', WHERE WHAT IT READS IS OF BULK AT MOST 1048576: true; the input reads as it did. -/
def fnExactSplitMoveUptoRow : OpenClaim := { program := "ytagfleajkalgiaa", sum := "445851004cd08cae75e2d8a3a421bfeffc4c887c95ec5c420c71e9b3e0303e0e", func := "loop.example/g00939/laws.FnExactSplitMove", spec := "fnExactSplitMove", apart := false, narrowed := true }
def FnExactSplitMoveUptoSaid : Prop := fnExactSplitMoveUptoRow.holds Try.pinned (OpenSpec.upto fnExactSplitMoveSpec)

/-- 'laws.FnExactJoinMoves', WHERE WHAT IT READS IS OF BULK AT MOST 1048576: true; the input reads as it did. -/
def fnExactJoinMovesUptoRow : OpenClaim := { program := "ytagfleajkalgiaa", sum := "445851004cd08cae75e2d8a3a421bfeffc4c887c95ec5c420c71e9b3e0303e0e", func := "loop.example/g00939/laws.FnExactJoinMoves", spec := "fnExactJoinMoves", apart := false, narrowed := true }
def FnExactJoinMovesUptoSaid : Prop := fnExactJoinMovesUptoRow.holds Try.pinned (OpenSpec.upto fnExactJoinMovesSpec)

/-- 'laws.FnExactWholeCounts', WHERE WHAT IT READS IS OF BULK AT MOST 1048576: true; the input reads as it did. -/
def fnExactWholeCountsUptoRow : OpenClaim := { program := "ytagfleajkalgiaa", sum := "445851004cd08cae75e2d8a3a421bfeffc4c887c95ec5c420c71e9b3e0303e0e", func := "loop.example/g00939/laws.FnExactWholeCounts", spec := "fnExactWholeCounts", apart := false, narrowed := true }
def FnExactWholeCountsUptoSaid : Prop := fnExactWholeCountsUptoRow.holds Try.pinned (OpenSpec.upto fnExactWholeCountsSpec)

/-- 'laws.FnExactParseMove', WHERE WHAT IT READS IS OF BULK AT MOST 1048576: true; the input reads as it did. -/
def fnExactParseMoveUptoRow : OpenClaim := { program := "ytagfleajkalgiaa", sum := "445851004cd08cae75e2d8a3a421bfeffc4c887c95ec5c420c71e9b3e0303e0e", func := "loop.example/g00939/laws.FnExactParseMove", spec := "fnExactParseMove", inPlace := ["internal/bytealg.IndexByteString", "internal/bytealg.IndexString"], recurses := true, named := ["internal/bytealg.MaxLen"], apart := false, narrowed := true }
def FnExactParseMoveUptoSaid : Prop := fnExactParseMoveUptoRow.holds Try.pinned (OpenSpec.upto fnExactParseMoveSpec)

end Rows
end Go.Proofs.Ytagfleajkalgiaa
