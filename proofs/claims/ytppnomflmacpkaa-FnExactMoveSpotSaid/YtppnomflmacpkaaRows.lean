/-
  No cell of these rows narrows 'for every input' (looked for: loops, veiled, ifaces, maps, wideKeys, modest, calm, conditions, laid).
  DERIVED. THE GIVEN ROWS OF THIS SEAT. 7 by the template 'for every input the law returns true; each argument reads behind the call as it read before'; 0 by the template 'total and deterministic' (their statements: YtppnomflmacpkaaTotals.lean).
  GIVEN WITH THE SEED: the statements are not yours to turn. If you find one false, say at which input.
  Laid BY PROGRAM, IN A SANDBOX (cutbox-rows.mjs): the forced cells as the released guide's own fill.sh prints them over the translation 19ce4f8f314502f9… (all of the seat's roots in one cut). By AI agents, Wed Nov 11 2026. No macro, syntax, notation, axiom, sorry.
-/
import Derived.Test.YtppnomflmacpkaaChecked
import GoSem.Claim
import GoSem.ClaimJoined
import GoSem.ClaimMapViews
import Derived.JoinedTies
import Derived.KernelRfl
namespace Go.Proofs.Ytppnomflmacpkaa
/- THE CELL 'sum', in the pinned program and in every row, IS THE sha256 OF THE DUMP (.gsa) THAT YtppnomflmacpkaaProg.lean LOADS. Nothing in Lean hashes anything: it is a label: what it is worth is what the hold of that sum in a sandbox is worth. -/
noncomputable def Try.pinned : Pinned := { name := "ytppnomflmacpkaa", sum := "19ce4f8f314502f944a5772071bb2ee707705963aa7d3251d906351638ca3d92", checked := Try.checked }
namespace Rows
def none {H : Type} : Left H := { results := [], args := [] }

/-- 'laws.FnExactMoveSpot': WHATEVER THE INPUT: true; the input reads as it did. -/
def fnExactMoveSpotSpec : ChangeSpec := { name := "fnExactMoveSpot", fn := fun _ => fun
  | [d1, d2, d3] => { results := [.lit (.bool true)], args := [d1, d2, d3] }
  | _ => none }
def fnExactMoveSpotRow : OpenClaim := { program := "ytppnomflmacpkaa", sum := "19ce4f8f314502f944a5772071bb2ee707705963aa7d3251d906351638ca3d92", func := "loop.example/g00939/laws.FnExactMoveSpot", spec := "fnExactMoveSpot", plainKeys := false, apart := false }
def FnExactMoveSpotSaid : Prop := fnExactMoveSpotRow.holds Try.pinned (OpenSpec.ofChange fnExactMoveSpotSpec)

/-- ITS FALSE NEIGHBOUR: 'it returns false'. Refute it at one input. -/
def fnExactMoveSpotWrong : ChangeSpec := { name := "fnExactMoveSpot", fn := fun _ => fun
  | [d1, d2, d3] => { results := [.lit (.bool false)], args := [d1, d2, d3] }
  | _ => none }
def FnExactMoveSpotWrongFalsely : Prop := fnExactMoveSpotRow.holds Try.pinned (OpenSpec.ofChange fnExactMoveSpotWrong)

/-- 'laws.FnExactParseSpot': WHATEVER THE INPUT: true; the input reads as it did. -/
def fnExactParseSpotSpec : ChangeSpec := { name := "fnExactParseSpot", fn := fun _ => fun
  | [d] => { results := [.lit (.bool true)], args := [d] }
  | _ => none }
def fnExactParseSpotRow : OpenClaim := { program := "ytppnomflmacpkaa", sum := "19ce4f8f314502f944a5772071bb2ee707705963aa7d3251d906351638ca3d92", func := "loop.example/g00939/laws.FnExactParseSpot", spec := "fnExactParseSpot", inPlace := ["internal/bytealg.IndexByteString", "internal/bytealg.IndexString"], recurses := true, named := ["internal/bytealg.MaxLen"], plainKeys := false, apart := false }
def FnExactParseSpotSaid : Prop := fnExactParseSpotRow.holds Try.pinned (OpenSpec.ofChange fnExactParseSpotSpec)

/-- ITS FALSE NEIGHBOUR: 'it returns false'. Refute it at one input. -/
def fnExactParseSpotWrong : ChangeSpec := { name := "fnExactParseSpot", fn := fun _ => fun
  | [d] => { results := [.lit (.bool false)], args := [d] }
  | _ => none }
def FnExactParseSpotWrongFalsely : Prop := fnExactParseSpotRow.holds Try.pinned (OpenSpec.ofChange fnExactParseSpotWrong)

/-- 'laws.FnExactLineOf': WHATEVER THE INPUT: true; the input reads as it did. -/
def fnExactLineOfSpec : ChangeSpec := { name := "fnExactLineOf", fn := fun _ => fun
  | [d1, d2, d3] => { results := [.lit (.bool true)], args := [d1, d2, d3] }
  | _ => none }
def fnExactLineOfRow : OpenClaim := { program := "ytppnomflmacpkaa", sum := "19ce4f8f314502f944a5772071bb2ee707705963aa7d3251d906351638ca3d92", func := "loop.example/g00939/laws.FnExactLineOf", spec := "fnExactLineOf", plainKeys := false, apart := false }
def FnExactLineOfSaid : Prop := fnExactLineOfRow.holds Try.pinned (OpenSpec.ofChange fnExactLineOfSpec)

/-- ITS FALSE NEIGHBOUR: 'it returns false'. Refute it at one input. -/
def fnExactLineOfWrong : ChangeSpec := { name := "fnExactLineOf", fn := fun _ => fun
  | [d1, d2, d3] => { results := [.lit (.bool false)], args := [d1, d2, d3] }
  | _ => none }
def FnExactLineOfWrongFalsely : Prop := fnExactLineOfRow.holds Try.pinned (OpenSpec.ofChange fnExactLineOfWrong)

/-- 'laws.FnExactPolyLine': WHATEVER THE INPUT: true; the input reads as it did. -/
def fnExactPolyLineSpec : ChangeSpec := { name := "fnExactPolyLine", fn := fun _ => fun
  | [d1, d2] => { results := [.lit (.bool true)], args := [d1, d2] }
  | _ => none }
def fnExactPolyLineRow : OpenClaim := { program := "ytppnomflmacpkaa", sum := "19ce4f8f314502f944a5772071bb2ee707705963aa7d3251d906351638ca3d92", func := "loop.example/g00939/laws.FnExactPolyLine", spec := "fnExactPolyLine", plainKeys := false, apart := false }
def FnExactPolyLineSaid : Prop := fnExactPolyLineRow.holds Try.pinned (OpenSpec.ofChange fnExactPolyLineSpec)

/-- ITS FALSE NEIGHBOUR: 'it returns false'. Refute it at one input. -/
def fnExactPolyLineWrong : ChangeSpec := { name := "fnExactPolyLine", fn := fun _ => fun
  | [d1, d2] => { results := [.lit (.bool false)], args := [d1, d2] }
  | _ => none }
def FnExactPolyLineWrongFalsely : Prop := fnExactPolyLineRow.holds Try.pinned (OpenSpec.ofChange fnExactPolyLineWrong)

/-- 'laws.FnExactMiddleSpot': WHATEVER THE INPUT: true; the input reads as it did. -/
def fnExactMiddleSpotSpec : ChangeSpec := { name := "fnExactMiddleSpot", fn := fun _ => fun
  | [d] => { results := [.lit (.bool true)], args := [d] }
  | _ => none }
def fnExactMiddleSpotRow : OpenClaim := { program := "ytppnomflmacpkaa", sum := "19ce4f8f314502f944a5772071bb2ee707705963aa7d3251d906351638ca3d92", func := "loop.example/g00939/laws.FnExactMiddleSpot", spec := "fnExactMiddleSpot", plainKeys := false, apart := false }
def FnExactMiddleSpotSaid : Prop := fnExactMiddleSpotRow.holds Try.pinned (OpenSpec.ofChange fnExactMiddleSpotSpec)

/-- ITS FALSE NEIGHBOUR: 'it returns false'. Refute it at one input. -/
def fnExactMiddleSpotWrong : ChangeSpec := { name := "fnExactMiddleSpot", fn := fun _ => fun
  | [d] => { results := [.lit (.bool false)], args := [d] }
  | _ => none }
def FnExactMiddleSpotWrongFalsely : Prop := fnExactMiddleSpotRow.holds Try.pinned (OpenSpec.ofChange fnExactMiddleSpotWrong)

/-- 'laws.FnExactSpreadForm': WHATEVER THE INPUT: true; the input reads as it did. -/
def fnExactSpreadFormSpec : ChangeSpec := { name := "fnExactSpreadForm", fn := fun _ => fun
  | [d1, d2] => { results := [.lit (.bool true)], args := [d1, d2] }
  | _ => none }
def fnExactSpreadFormRow : OpenClaim := { program := "ytppnomflmacpkaa", sum := "19ce4f8f314502f944a5772071bb2ee707705963aa7d3251d906351638ca3d92", func := "loop.example/g00939/laws.FnExactSpreadForm", spec := "fnExactSpreadForm", unfollowed := true, recurses := true, plainKeys := false, apart := false }
def FnExactSpreadFormSaid : Prop := fnExactSpreadFormRow.holds Try.pinned (OpenSpec.ofChange fnExactSpreadFormSpec)

/-- ITS FALSE NEIGHBOUR: 'it returns false'. Refute it at one input. -/
def fnExactSpreadFormWrong : ChangeSpec := { name := "fnExactSpreadForm", fn := fun _ => fun
  | [d1, d2] => { results := [.lit (.bool false)], args := [d1, d2] }
  | _ => none }
def FnExactSpreadFormWrongFalsely : Prop := fnExactSpreadFormRow.holds Try.pinned (OpenSpec.ofChange fnExactSpreadFormWrong)

/-- 'laws.FnExactTurnForm': WHATEVER THE INPUT: true; the input reads as it did. -/
def fnExactTurnFormSpec : ChangeSpec := { name := "fnExactTurnForm", fn := fun _ => fun
  | [d1, d2] => { results := [.lit (.bool true)], args := [d1, d2] }
  | _ => none }
def fnExactTurnFormRow : OpenClaim := { program := "ytppnomflmacpkaa", sum := "19ce4f8f314502f944a5772071bb2ee707705963aa7d3251d906351638ca3d92", func := "loop.example/g00939/laws.FnExactTurnForm", spec := "fnExactTurnForm", unfollowed := true, recurses := true, plainKeys := false, apart := false }
def FnExactTurnFormSaid : Prop := fnExactTurnFormRow.holds Try.pinned (OpenSpec.ofChange fnExactTurnFormSpec)

/-- ITS FALSE NEIGHBOUR: 'it returns false'. Refute it at one input. -/
def fnExactTurnFormWrong : ChangeSpec := { name := "fnExactTurnForm", fn := fun _ => fun
  | [d1, d2] => { results := [.lit (.bool false)], args := [d1, d2] }
  | _ => none }
def FnExactTurnFormWrongFalsely : Prop := fnExactTurnFormRow.holds Try.pinned (OpenSpec.ofChange fnExactTurnFormWrong)

/- THE SECOND FORM. 'bulk': how many values and letters a reading holds, each counted each time it is reached (what is shared counts as often as it is met; a slice's spare places count too). A statement '..UptoSaid' is the law's where the arguments, and the package variables that the reading takes, are together of bulk at most 1048576: NARROWER than '..Said'. Prove '..Said' where nothing that the law and all that it calls make is longer than what came in: it says more and counts as full. Else prove '..UptoSaid'. A law counts once. -/
mutual
def uptoBulk {H : Type} : DataW H → Nat
  | .lit (.string bytes) => bytes.length + 1
  | .lit _ => 1
  | .nil => 1
  | .ptr d => uptoBulk d + 1
  | .slice elems spare => uptoBulkAll elems + uptoBulkAll spare + 1
  | .agg parts => uptoBulkAll parts + 1
  | .iface _ d => uptoBulk d + 1
  | .map entries => uptoBulkEntries entries + 1
  | .held _ => 1
def uptoBulkAll {H : Type} : List (DataW H) → Nat
  | [] => 0
  | d :: r => uptoBulk d + uptoBulkAll r
def uptoBulkEntries {H : Type} : List (Lit × DataW H) → Nat
  | [] => 0
  | x :: r => uptoBulkEntry x + uptoBulkEntries r
def uptoBulkEntry {H : Type} : Lit × DataW H → Nat
  | (.string bytes, d) => bytes.length + uptoBulk d + 1
  | (_, d) => uptoBulk d + 1
 end
def uptoSmall : (H : Type) → List (DataW H) → Bool := fun _ ds => decide (uptoBulkAll ds ≤ 1048576)
def OpenSpec.upto (s : _root_.Go.ChangeSpec) : _root_.Go.OpenSpec := { _root_.Go.OpenSpec.ofChange s with cond := some uptoSmall }

/-- 'laws.FnExactMoveSpot', WHERE WHAT IT READS IS OF BULK AT MOST 1048576: true; the input reads as it did. -/
def fnExactMoveSpotUptoRow : OpenClaim := { program := "ytppnomflmacpkaa", sum := "19ce4f8f314502f944a5772071bb2ee707705963aa7d3251d906351638ca3d92", func := "loop.example/g00939/laws.FnExactMoveSpot", spec := "fnExactMoveSpot", plainKeys := false, apart := false, narrowed := true }
def FnExactMoveSpotUptoSaid : Prop := fnExactMoveSpotUptoRow.holds Try.pinned (OpenSpec.upto fnExactMoveSpotSpec)

/-- 'laws.FnExactParseSpot', WHERE WHAT IT READS IS OF BULK AT MOST 1048576: true; the input reads as it did. -/
def fnExactParseSpotUptoRow : OpenClaim := { program := "ytppnomflmacpkaa", sum := "19ce4f8f314502f944a5772071bb2ee707705963aa7d3251d906351638ca3d92", func := "loop.example/g00939/laws.FnExactParseSpot", spec := "fnExactParseSpot", inPlace := ["internal/bytealg.IndexByteString", "internal/bytealg.IndexString"], recurses := true, named := ["internal/bytealg.MaxLen"], plainKeys := false, apart := false, narrowed := true }
def FnExactParseSpotUptoSaid : Prop := fnExactParseSpotUptoRow.holds Try.pinned (OpenSpec.upto fnExactParseSpotSpec)

/-- 'laws.FnExactLineOf', WHERE WHAT IT READS IS OF BULK AT MOST 1048576: true; the input reads as it did. -/
def fnExactLineOfUptoRow : OpenClaim := { program := "ytppnomflmacpkaa", sum := "19ce4f8f314502f944a5772071bb2ee707705963aa7d3251d906351638ca3d92", func := "loop.example/g00939/laws.FnExactLineOf", spec := "fnExactLineOf", plainKeys := false, apart := false, narrowed := true }
def FnExactLineOfUptoSaid : Prop := fnExactLineOfUptoRow.holds Try.pinned (OpenSpec.upto fnExactLineOfSpec)

/-- 'laws.FnExactPolyLine', WHERE WHAT IT READS IS OF BULK AT MOST 1048576: true; the input reads as it did. -/
def fnExactPolyLineUptoRow : OpenClaim := { program := "ytppnomflmacpkaa", sum := "19ce4f8f314502f944a5772071bb2ee707705963aa7d3251d906351638ca3d92", func := "loop.example/g00939/laws.FnExactPolyLine", spec := "fnExactPolyLine", plainKeys := false, apart := false, narrowed := true }
def FnExactPolyLineUptoSaid : Prop := fnExactPolyLineUptoRow.holds Try.pinned (OpenSpec.upto fnExactPolyLineSpec)

/-- 'laws.FnExactMiddleSpot', WHERE WHAT IT READS IS OF BULK AT MOST 1048576: true; the input reads as it did. -/
def fnExactMiddleSpotUptoRow : OpenClaim := { program := "ytppnomflmacpkaa", sum := "19ce4f8f314502f944a5772071bb2ee707705963aa7d3251d906351638ca3d92", func := "loop.example/g00939/laws.FnExactMiddleSpot", spec := "fnExactMiddleSpot", plainKeys := false, apart := false, narrowed := true }
def FnExactMiddleSpotUptoSaid : Prop := fnExactMiddleSpotUptoRow.holds Try.pinned (OpenSpec.upto fnExactMiddleSpotSpec)

/-- 'laws.FnExactSpreadForm', WHERE WHAT IT READS IS OF BULK AT MOST 1048576: true; the input reads as it did. -/
def fnExactSpreadFormUptoRow : OpenClaim := { program := "ytppnomflmacpkaa", sum := "19ce4f8f314502f944a5772071bb2ee707705963aa7d3251d906351638ca3d92", func := "loop.example/g00939/laws.FnExactSpreadForm", spec := "fnExactSpreadForm", unfollowed := true, recurses := true, plainKeys := false, apart := false, narrowed := true }
def FnExactSpreadFormUptoSaid : Prop := fnExactSpreadFormUptoRow.holds Try.pinned (OpenSpec.upto fnExactSpreadFormSpec)

/-- 'laws.FnExactTurnForm', WHERE WHAT IT READS IS OF BULK AT MOST 1048576: true; the input reads as it did. -/
def fnExactTurnFormUptoRow : OpenClaim := { program := "ytppnomflmacpkaa", sum := "19ce4f8f314502f944a5772071bb2ee707705963aa7d3251d906351638ca3d92", func := "loop.example/g00939/laws.FnExactTurnForm", spec := "fnExactTurnForm", unfollowed := true, recurses := true, plainKeys := false, apart := false, narrowed := true }
def FnExactTurnFormUptoSaid : Prop := fnExactTurnFormUptoRow.holds Try.pinned (OpenSpec.upto fnExactTurnFormSpec)

end Rows
end Go.Proofs.Ytppnomflmacpkaa
