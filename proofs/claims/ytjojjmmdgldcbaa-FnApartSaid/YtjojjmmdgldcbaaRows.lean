/-
  No cell of these rows narrows 'for every input' (looked for: loops, veiled, ifaces, maps, wideKeys, modest, calm, conditions, laid).
  DERIVED. THE GIVEN ROWS OF THIS SEAT. 11 by the template 'for every input the law returns true; each argument reads behind the call as it read before'; 0 by the template 'total and deterministic' (their statements: YtjojjmmdgldcbaaTotals.lean).
  GIVEN WITH THE SEED: the statements are not yours to turn. If you find one false, say at which input.
  Laid BY PROGRAM, IN A SANDBOX (cutbox-rows.mjs): the forced cells as the released guide's own fill.sh prints them over the translation cef24a208c807203… (all of the seat's roots in one cut). By AI agents, Wed Nov 11 2026. No macro, syntax, notation, axiom, sorry.
-/
import Derived.Test.YtjojjmmdgldcbaaChecked
import GoSem.Claim
import GoSem.ClaimJoined
import GoSem.ClaimMapViews
import Derived.JoinedTies
import Derived.KernelRfl
namespace Go.Proofs.Ytjojjmmdgldcbaa
/- THE CELL 'sum', in the pinned program and in every row, IS THE sha256 OF THE DUMP (.gsa) THAT YtjojjmmdgldcbaaProg.lean LOADS. Nothing in Lean hashes anything: it is a label: what it is worth is what the hold of that sum in a sandbox is worth. -/
noncomputable def Try.pinned : Pinned := { name := "ytjojjmmdgldcbaa", sum := "cef24a208c807203844abfaf303dbcbf52d62ca2adea12a8402e5c1f55e206dd", checked := Try.checked }
namespace Rows
def none {H : Type} : Left H := { results := [], args := [] }

/-- 'laws.FnExactApartAt': WHATEVER THE INPUT: true; the input reads as it did. -/
def fnExactApartAtSpec : ChangeSpec := { name := "fnExactApartAt", fn := fun _ => fun
  | [d1, d2, d3] => { results := [.lit (.bool true)], args := [d1, d2, d3] }
  | _ => none }
def fnExactApartAtRow : OpenClaim := { program := "ytjojjmmdgldcbaa", sum := "cef24a208c807203844abfaf303dbcbf52d62ca2adea12a8402e5c1f55e206dd", func := "loop.example/g00939/laws.FnExactApartAt", spec := "fnExactApartAt", apart := false }
def FnExactApartAtSaid : Prop := fnExactApartAtRow.holds Try.pinned (OpenSpec.ofChange fnExactApartAtSpec)

/-- ITS FALSE NEIGHBOUR: 'it returns false'. Refute it at one input. -/
def fnExactApartAtWrong : ChangeSpec := { name := "fnExactApartAt", fn := fun _ => fun
  | [d1, d2, d3] => { results := [.lit (.bool false)], args := [d1, d2, d3] }
  | _ => none }
def FnExactApartAtWrongFalsely : Prop := fnExactApartAtRow.holds Try.pinned (OpenSpec.ofChange fnExactApartAtWrong)

/-- 'laws.FnExactLeastApart': WHATEVER THE INPUT: true; the input reads as it did. -/
def fnExactLeastApartSpec : ChangeSpec := { name := "fnExactLeastApart", fn := fun _ => fun
  | [d1, d2] => { results := [.lit (.bool true)], args := [d1, d2] }
  | _ => none }
def fnExactLeastApartRow : OpenClaim := { program := "ytjojjmmdgldcbaa", sum := "cef24a208c807203844abfaf303dbcbf52d62ca2adea12a8402e5c1f55e206dd", func := "loop.example/g00939/laws.FnExactLeastApart", spec := "fnExactLeastApart", apart := false }
def FnExactLeastApartSaid : Prop := fnExactLeastApartRow.holds Try.pinned (OpenSpec.ofChange fnExactLeastApartSpec)

/-- ITS FALSE NEIGHBOUR: 'it returns false'. Refute it at one input. -/
def fnExactLeastApartWrong : ChangeSpec := { name := "fnExactLeastApart", fn := fun _ => fun
  | [d1, d2] => { results := [.lit (.bool false)], args := [d1, d2] }
  | _ => none }
def FnExactLeastApartWrongFalsely : Prop := fnExactLeastApartRow.holds Try.pinned (OpenSpec.ofChange fnExactLeastApartWrong)

/-- 'laws.FnExactClosestTime': WHATEVER THE INPUT: true; the input reads as it did. -/
def fnExactClosestTimeSpec : ChangeSpec := { name := "fnExactClosestTime", fn := fun _ => fun
  | [d1, d2] => { results := [.lit (.bool true)], args := [d1, d2] }
  | _ => none }
def fnExactClosestTimeRow : OpenClaim := { program := "ytjojjmmdgldcbaa", sum := "cef24a208c807203844abfaf303dbcbf52d62ca2adea12a8402e5c1f55e206dd", func := "loop.example/g00939/laws.FnExactClosestTime", spec := "fnExactClosestTime", apart := false }
def FnExactClosestTimeSaid : Prop := fnExactClosestTimeRow.holds Try.pinned (OpenSpec.ofChange fnExactClosestTimeSpec)

/-- ITS FALSE NEIGHBOUR: 'it returns false'. Refute it at one input. -/
def fnExactClosestTimeWrong : ChangeSpec := { name := "fnExactClosestTime", fn := fun _ => fun
  | [d1, d2] => { results := [.lit (.bool false)], args := [d1, d2] }
  | _ => none }
def FnExactClosestTimeWrongFalsely : Prop := fnExactClosestTimeRow.holds Try.pinned (OpenSpec.ofChange fnExactClosestTimeWrong)

/-- 'laws.FnExactStayApart': WHATEVER THE INPUT: true; the input reads as it did. -/
def fnExactStayApartSpec : ChangeSpec := { name := "fnExactStayApart", fn := fun _ => fun
  | [d1, d2, d3] => { results := [.lit (.bool true)], args := [d1, d2, d3] }
  | _ => none }
def fnExactStayApartRow : OpenClaim := { program := "ytjojjmmdgldcbaa", sum := "cef24a208c807203844abfaf303dbcbf52d62ca2adea12a8402e5c1f55e206dd", func := "loop.example/g00939/laws.FnExactStayApart", spec := "fnExactStayApart", apart := false }
def FnExactStayApartSaid : Prop := fnExactStayApartRow.holds Try.pinned (OpenSpec.ofChange fnExactStayApartSpec)

/-- ITS FALSE NEIGHBOUR: 'it returns false'. Refute it at one input. -/
def fnExactStayApartWrong : ChangeSpec := { name := "fnExactStayApart", fn := fun _ => fun
  | [d1, d2, d3] => { results := [.lit (.bool false)], args := [d1, d2, d3] }
  | _ => none }
def FnExactStayApartWrongFalsely : Prop := fnExactStayApartRow.holds Try.pinned (OpenSpec.ofChange fnExactStayApartWrong)

/-- 'laws.FnExactCloseCounts': WHATEVER THE INPUT: true; the input reads as it did. -/
def fnExactCloseCountsSpec : ChangeSpec := { name := "fnExactCloseCounts", fn := fun _ => fun
  | [d1, d2, d3] => { results := [.lit (.bool true)], args := [d1, d2, d3] }
  | _ => none }
def fnExactCloseCountsRow : OpenClaim := { program := "ytjojjmmdgldcbaa", sum := "cef24a208c807203844abfaf303dbcbf52d62ca2adea12a8402e5c1f55e206dd", func := "loop.example/g00939/laws.FnExactCloseCounts", spec := "fnExactCloseCounts", apart := false }
def FnExactCloseCountsSaid : Prop := fnExactCloseCountsRow.holds Try.pinned (OpenSpec.ofChange fnExactCloseCountsSpec)

/-- ITS FALSE NEIGHBOUR: 'it returns false'. Refute it at one input. -/
def fnExactCloseCountsWrong : ChangeSpec := { name := "fnExactCloseCounts", fn := fun _ => fun
  | [d1, d2, d3] => { results := [.lit (.bool false)], args := [d1, d2, d3] }
  | _ => none }
def FnExactCloseCountsWrongFalsely : Prop := fnExactCloseCountsRow.holds Try.pinned (OpenSpec.ofChange fnExactCloseCountsWrong)

/-- 'laws.FnExactWaysCross': WHATEVER THE INPUT: true; the input reads as it did. -/
def fnExactWaysCrossSpec : ChangeSpec := { name := "fnExactWaysCross", fn := fun _ => fun
  | [d1, d2] => { results := [.lit (.bool true)], args := [d1, d2] }
  | _ => none }
def fnExactWaysCrossRow : OpenClaim := { program := "ytjojjmmdgldcbaa", sum := "cef24a208c807203844abfaf303dbcbf52d62ca2adea12a8402e5c1f55e206dd", func := "loop.example/g00939/laws.FnExactWaysCross", spec := "fnExactWaysCross", apart := false }
def FnExactWaysCrossSaid : Prop := fnExactWaysCrossRow.holds Try.pinned (OpenSpec.ofChange fnExactWaysCrossSpec)

/-- ITS FALSE NEIGHBOUR: 'it returns false'. Refute it at one input. -/
def fnExactWaysCrossWrong : ChangeSpec := { name := "fnExactWaysCross", fn := fun _ => fun
  | [d1, d2] => { results := [.lit (.bool false)], args := [d1, d2] }
  | _ => none }
def FnExactWaysCrossWrongFalsely : Prop := fnExactWaysCrossRow.holds Try.pinned (OpenSpec.ofChange fnExactWaysCrossWrong)

/-- 'laws.FnExactClosestMoves': WHATEVER THE INPUT: true; the input reads as it did. -/
def fnExactClosestMovesSpec : ChangeSpec := { name := "fnExactClosestMoves", fn := fun _ => fun
  | [d] => { results := [.lit (.bool true)], args := [d] }
  | _ => none }
def fnExactClosestMovesRow : OpenClaim := { program := "ytjojjmmdgldcbaa", sum := "cef24a208c807203844abfaf303dbcbf52d62ca2adea12a8402e5c1f55e206dd", func := "loop.example/g00939/laws.FnExactClosestMoves", spec := "fnExactClosestMoves", apart := false }
def FnExactClosestMovesSaid : Prop := fnExactClosestMovesRow.holds Try.pinned (OpenSpec.ofChange fnExactClosestMovesSpec)

/-- ITS FALSE NEIGHBOUR: 'it returns false'. Refute it at one input. -/
def fnExactClosestMovesWrong : ChangeSpec := { name := "fnExactClosestMoves", fn := fun _ => fun
  | [d] => { results := [.lit (.bool false)], args := [d] }
  | _ => none }
def FnExactClosestMovesWrongFalsely : Prop := fnExactClosestMovesRow.holds Try.pinned (OpenSpec.ofChange fnExactClosestMovesWrong)

/-- 'laws.FnCloseMoves': WHATEVER THE INPUT: true; the input reads as it did. -/
def fnCloseMovesSpec : ChangeSpec := { name := "fnCloseMoves", fn := fun _ => fun
  | [d1, d2] => { results := [.lit (.bool true)], args := [d1, d2] }
  | _ => none }
def fnCloseMovesRow : OpenClaim := { program := "ytjojjmmdgldcbaa", sum := "cef24a208c807203844abfaf303dbcbf52d62ca2adea12a8402e5c1f55e206dd", func := "loop.example/g00939/laws.FnCloseMoves", spec := "fnCloseMoves", apart := false }
def FnCloseMovesSaid : Prop := fnCloseMovesRow.holds Try.pinned (OpenSpec.ofChange fnCloseMovesSpec)

/-- ITS FALSE NEIGHBOUR: 'it returns false'. Refute it at one input. -/
def fnCloseMovesWrong : ChangeSpec := { name := "fnCloseMoves", fn := fun _ => fun
  | [d1, d2] => { results := [.lit (.bool false)], args := [d1, d2] }
  | _ => none }
def FnCloseMovesWrongFalsely : Prop := fnCloseMovesRow.holds Try.pinned (OpenSpec.ofChange fnCloseMovesWrong)

/-- 'laws.FnExactCloseMoves': WHATEVER THE INPUT: true; the input reads as it did. -/
def fnExactCloseMovesSpec : ChangeSpec := { name := "fnExactCloseMoves", fn := fun _ => fun
  | [d1, d2] => { results := [.lit (.bool true)], args := [d1, d2] }
  | _ => none }
def fnExactCloseMovesRow : OpenClaim := { program := "ytjojjmmdgldcbaa", sum := "cef24a208c807203844abfaf303dbcbf52d62ca2adea12a8402e5c1f55e206dd", func := "loop.example/g00939/laws.FnExactCloseMoves", spec := "fnExactCloseMoves", apart := false }
def FnExactCloseMovesSaid : Prop := fnExactCloseMovesRow.holds Try.pinned (OpenSpec.ofChange fnExactCloseMovesSpec)

/-- ITS FALSE NEIGHBOUR: 'it returns false'. Refute it at one input. -/
def fnExactCloseMovesWrong : ChangeSpec := { name := "fnExactCloseMoves", fn := fun _ => fun
  | [d1, d2] => { results := [.lit (.bool false)], args := [d1, d2] }
  | _ => none }
def FnExactCloseMovesWrongFalsely : Prop := fnExactCloseMovesRow.holds Try.pinned (OpenSpec.ofChange fnExactCloseMovesWrong)

/-- 'laws.FnExactLeastOfAll': WHATEVER THE INPUT: true; the input reads as it did. -/
def fnExactLeastOfAllSpec : ChangeSpec := { name := "fnExactLeastOfAll", fn := fun _ => fun
  | [d] => { results := [.lit (.bool true)], args := [d] }
  | _ => none }
def fnExactLeastOfAllRow : OpenClaim := { program := "ytjojjmmdgldcbaa", sum := "cef24a208c807203844abfaf303dbcbf52d62ca2adea12a8402e5c1f55e206dd", func := "loop.example/g00939/laws.FnExactLeastOfAll", spec := "fnExactLeastOfAll", apart := false }
def FnExactLeastOfAllSaid : Prop := fnExactLeastOfAllRow.holds Try.pinned (OpenSpec.ofChange fnExactLeastOfAllSpec)

/-- ITS FALSE NEIGHBOUR: 'it returns false'. Refute it at one input. -/
def fnExactLeastOfAllWrong : ChangeSpec := { name := "fnExactLeastOfAll", fn := fun _ => fun
  | [d] => { results := [.lit (.bool false)], args := [d] }
  | _ => none }
def FnExactLeastOfAllWrongFalsely : Prop := fnExactLeastOfAllRow.holds Try.pinned (OpenSpec.ofChange fnExactLeastOfAllWrong)

/-- 'laws.FnApart': WHATEVER THE INPUT: true; the input reads as it did. -/
def fnApartSpec : ChangeSpec := { name := "fnApart", fn := fun _ => fun
  | [d1, d2] => { results := [.lit (.bool true)], args := [d1, d2] }
  | _ => none }
def fnApartRow : OpenClaim := { program := "ytjojjmmdgldcbaa", sum := "cef24a208c807203844abfaf303dbcbf52d62ca2adea12a8402e5c1f55e206dd", func := "loop.example/g00939/laws.FnApart", spec := "fnApart", apart := false }
def FnApartSaid : Prop := fnApartRow.holds Try.pinned (OpenSpec.ofChange fnApartSpec)

/-- ITS FALSE NEIGHBOUR: 'it returns false'. Refute it at one input. -/
def fnApartWrong : ChangeSpec := { name := "fnApart", fn := fun _ => fun
  | [d1, d2] => { results := [.lit (.bool false)], args := [d1, d2] }
  | _ => none }
def FnApartWrongFalsely : Prop := fnApartRow.holds Try.pinned (OpenSpec.ofChange fnApartWrong)

/- THE SECOND FORM. 'bulk': how many values and letters a reading holds, each counted each time it is reached (what is shared counts as often as it is met; a slice's spare places count too). A statement '..UptoSaid' is the law's where the arguments, and the package variables that the reading takes, are together of bulk at most 1048576: NARROWER than '..Said'. Prove '..Said' where nothing that the law and all that it calls make is longer than what came in: it says more and counts as full. Else prove '..UptoSaid'. A law counts once. -/
mutual
def uptoBulk {H : Type} : DataW H → Nat
  | .lit (.string bytes) => bytes.length + 1
  | .lit _ => 1
  | .nil => 1
  | .ptr d => uptoBulk d + 1
  | .slice elems spare => uptoBulkAll elems + uptoBulkAll spare + 1
  | .agg parts => uptoBulkAll parts + 1
  | .iface _ d => uptoBulk d + 1
  | .map entries => uptoBulkEntries entries + 1
  | .held _ => 1
def uptoBulkAll {H : Type} : List (DataW H) → Nat
  | [] => 0
  | d :: r => uptoBulk d + uptoBulkAll r
def uptoBulkEntries {H : Type} : List (Lit × DataW H) → Nat
  | [] => 0
  | x :: r => uptoBulkEntry x + uptoBulkEntries r
def uptoBulkEntry {H : Type} : Lit × DataW H → Nat
  | (.string bytes, d) => bytes.length + uptoBulk d + 1
  | (_, d) => uptoBulk d + 1
 end
def uptoSmall : (H : Type) → List (DataW H) → Bool := fun _ ds => decide (uptoBulkAll ds ≤ 1048576)
def OpenSpec.upto (s : _root_.Go.ChangeSpec) : _root_.Go.OpenSpec := { _root_.Go.OpenSpec.ofChange s with cond := some uptoSmall }

/-- 'laws.FnExactApartAt', WHERE WHAT IT READS IS OF BULK AT MOST 1048576: true; the input reads as it did. -/
def fnExactApartAtUptoRow : OpenClaim := { program := "ytjojjmmdgldcbaa", sum := "cef24a208c807203844abfaf303dbcbf52d62ca2adea12a8402e5c1f55e206dd", func := "loop.example/g00939/laws.FnExactApartAt", spec := "fnExactApartAt", apart := false, narrowed := true }
def FnExactApartAtUptoSaid : Prop := fnExactApartAtUptoRow.holds Try.pinned (OpenSpec.upto fnExactApartAtSpec)

/-- 'laws.FnExactLeastApart', WHERE WHAT IT READS IS OF BULK AT MOST 1048576: true; the input reads as it did. -/
def fnExactLeastApartUptoRow : OpenClaim := { program := "ytjojjmmdgldcbaa", sum := "cef24a208c807203844abfaf303dbcbf52d62ca2adea12a8402e5c1f55e206dd", func := "loop.example/g00939/laws.FnExactLeastApart", spec := "fnExactLeastApart", apart := false, narrowed := true }
def FnExactLeastApartUptoSaid : Prop := fnExactLeastApartUptoRow.holds Try.pinned (OpenSpec.upto fnExactLeastApartSpec)

/-- 'laws.FnExactClosestTime', WHERE WHAT IT READS IS OF BULK AT MOST 1048576: true; the input reads as it did. -/
def fnExactClosestTimeUptoRow : OpenClaim := { program := "ytjojjmmdgldcbaa", sum := "cef24a208c807203844abfaf303dbcbf52d62ca2adea12a8402e5c1f55e206dd", func := "loop.example/g00939/laws.FnExactClosestTime", spec := "fnExactClosestTime", apart := false, narrowed := true }
def FnExactClosestTimeUptoSaid : Prop := fnExactClosestTimeUptoRow.holds Try.pinned (OpenSpec.upto fnExactClosestTimeSpec)

/-- 'laws.FnExactStayApart', WHERE WHAT IT READS IS OF BULK AT MOST 1048576: true; the input reads as it did. -/
def fnExactStayApartUptoRow : OpenClaim := { program := "ytjojjmmdgldcbaa", sum := "cef24a208c807203844abfaf303dbcbf52d62ca2adea12a8402e5c1f55e206dd", func := "loop.example/g00939/laws.FnExactStayApart", spec := "fnExactStayApart", apart := false, narrowed := true }
def FnExactStayApartUptoSaid : Prop := fnExactStayApartUptoRow.holds Try.pinned (OpenSpec.upto fnExactStayApartSpec)

/-- 'laws.FnExactCloseCounts', WHERE WHAT IT READS IS OF BULK AT MOST 1048576: true; the input reads as it did. -/
def fnExactCloseCountsUptoRow : OpenClaim := { program := "ytjojjmmdgldcbaa", sum := "cef24a208c807203844abfaf303dbcbf52d62ca2adea12a8402e5c1f55e206dd", func := "loop.example/g00939/laws.FnExactCloseCounts", spec := "fnExactCloseCounts", apart := false, narrowed := true }
def FnExactCloseCountsUptoSaid : Prop := fnExactCloseCountsUptoRow.holds Try.pinned (OpenSpec.upto fnExactCloseCountsSpec)

/-- 'laws.FnExactWaysCross', WHERE WHAT IT READS IS OF BULK AT MOST 1048576: true; the input reads as it did. -/
def fnExactWaysCrossUptoRow : OpenClaim := { program := "ytjojjmmdgldcbaa", sum := "cef24a208c807203844abfaf303dbcbf52d62ca2adea12a8402e5c1f55e206dd", func := "loop.example/g00939/laws.FnExactWaysCross", spec := "fnExactWaysCross", apart := false, narrowed := true }
def FnExactWaysCrossUptoSaid : Prop := fnExactWaysCrossUptoRow.holds Try.pinned (OpenSpec.upto fnExactWaysCrossSpec)

/-- 'laws.FnExactClosestMoves', WHERE WHAT IT READS IS OF BULK AT MOST 1048576: true; the input reads as it did. -/
def fnExactClosestMovesUptoRow : OpenClaim := { program := "ytjojjmmdgldcbaa", sum := "cef24a208c807203844abfaf303dbcbf52d62ca2adea12a8402e5c1f55e206dd", func := "loop.example/g00939/laws.FnExactClosestMoves", spec := "fnExactClosestMoves", apart := false, narrowed := true }
def FnExactClosestMovesUptoSaid : Prop := fnExactClosestMovesUptoRow.holds Try.pinned (OpenSpec.upto fnExactClosestMovesSpec)

/-- 'laws.FnCloseMoves', WHERE WHAT IT READS IS OF BULK AT MOST 1048576: true; the input reads as it did. -/
def fnCloseMovesUptoRow : OpenClaim := { program := "ytjojjmmdgldcbaa", sum := "cef24a208c807203844abfaf303dbcbf52d62ca2adea12a8402e5c1f55e206dd", func := "loop.example/g00939/laws.FnCloseMoves", spec := "fnCloseMoves", apart := false, narrowed := true }
def FnCloseMovesUptoSaid : Prop := fnCloseMovesUptoRow.holds Try.pinned (OpenSpec.upto fnCloseMovesSpec)

/-- 'laws.FnExactCloseMoves', WHERE WHAT IT READS IS OF BULK AT MOST 1048576: true; the input reads as it did. -/
def fnExactCloseMovesUptoRow : OpenClaim := { program := "ytjojjmmdgldcbaa", sum := "cef24a208c807203844abfaf303dbcbf52d62ca2adea12a8402e5c1f55e206dd", func := "loop.example/g00939/laws.FnExactCloseMoves", spec := "fnExactCloseMoves", apart := false, narrowed := true }
def FnExactCloseMovesUptoSaid : Prop := fnExactCloseMovesUptoRow.holds Try.pinned (OpenSpec.upto fnExactCloseMovesSpec)

/-- 'laws.FnExactLeastOfAll', WHERE WHAT IT READS IS OF BULK AT MOST 1048576: true; the input reads as it did. -/
def fnExactLeastOfAllUptoRow : OpenClaim := { program := "ytjojjmmdgldcbaa", sum := "cef24a208c807203844abfaf303dbcbf52d62ca2adea12a8402e5c1f55e206dd", func := "loop.example/g00939/laws.FnExactLeastOfAll", spec := "fnExactLeastOfAll", apart := false, narrowed := true }
def FnExactLeastOfAllUptoSaid : Prop := fnExactLeastOfAllUptoRow.holds Try.pinned (OpenSpec.upto fnExactLeastOfAllSpec)

/-- 'laws.FnApart', WHERE WHAT IT READS IS OF BULK AT MOST 1048576: true; the input reads as it did. -/
def fnApartUptoRow : OpenClaim := { program := "ytjojjmmdgldcbaa", sum := "cef24a208c807203844abfaf303dbcbf52d62ca2adea12a8402e5c1f55e206dd", func := "loop.example/g00939/laws.FnApart", spec := "fnApart", apart := false, narrowed := true }
def FnApartUptoSaid : Prop := fnApartUptoRow.holds Try.pinned (OpenSpec.upto fnApartSpec)

end Rows
end Go.Proofs.Ytjojjmmdgldcbaa
