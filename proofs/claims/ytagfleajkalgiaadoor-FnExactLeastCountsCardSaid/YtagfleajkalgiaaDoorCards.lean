/-
  DERIVED. GIVEN WITH THE SEED: THE CARDS: each row of YtagfleajkalgiaaDoorRows.lean that lists a variable, with what it lists TIED to the program's text (the seventh form; the later family's looks); each row that meets fmt, with fmt's text TOLD by the authors' own Lean function (tested against real Go, not proved from fmt's source: count such statements apart). THE CARD IS WHAT COUNTS. Prove the row's statement (the work); the ties are given (YtagfleajkalgiaaDoorTie.lean); close each card by the builder's one call (the guide's Derived/Test/ToyasCard.lean, 'card_holds'). Laid BY PROGRAM, IN A SANDBOX (cutbox-door.mjs). By AI agents, Wed Nov 11 2026. No macro, syntax, notation, axiom, sorry.
-/
import Derived.Test.YtagfleajkalgiaaDoorRows
import GoSem.ClaimSeven
namespace Go.Proofs.YtagfleajkalgiaaDoor
namespace Rows

/-- THE TIED CARD OF 'laws.FnExactWithinStep'. -/
def fnExactWithinStepCard : Claim7 := { stood := { row := fnExactWithinStepRow, standIns := [], harness := (true, "8f8a69a6e3d913b1b55e5ba32c611232e5887f6a603a8c9246b689e6d5dc37f2"), looks := false }, kinds := [], alts := [], laidByText := true, laidKinds := [.data], laidTests := true, laidLooks := .later }
def FnExactWithinStepCardSaid : Prop := Claim7.holds Tryd.pinned (.plain (OpenSpec.ofChange fnExactWithinStepSpec)) fnExactWithinStepCard

/-- THE TIED CARD OF 'laws.FnExactLeastCounts'. -/
def fnExactLeastCountsCard : Claim7 := { stood := { row := fnExactLeastCountsRow, standIns := [], harness := (true, "8f8a69a6e3d913b1b55e5ba32c611232e5887f6a603a8c9246b689e6d5dc37f2"), looks := false }, kinds := [], alts := [], laidByText := true, laidKinds := [.data], laidTests := true, laidLooks := .later }
def FnExactLeastCountsCardSaid : Prop := Claim7.holds Tryd.pinned (.plain (OpenSpec.ofChange fnExactLeastCountsSpec)) fnExactLeastCountsCard

/-- THE TIED CARD OF 'laws.FnExactMoveText'. -/
def fnExactMoveTextCard : Claim7 := { stood := { row := fnExactMoveTextRow, standIns := [], harness := (true, "8f8a69a6e3d913b1b55e5ba32c611232e5887f6a603a8c9246b689e6d5dc37f2"), looks := false }, kinds := [], alts := [], laidByText := true, laidKinds := [.data, .data, .data], laidTests := true, laidLooks := .later }
def FnExactMoveTextCardSaid : Prop := Claim7.holds Tryd.pinned (.plain (OpenSpec.ofChange fnExactMoveTextSpec)) fnExactMoveTextCard

/-- THE SECOND FORM's CARD OF 'laws.FnExactWithinStep'. -/
def fnExactWithinStepUptoCard : Claim7 := { stood := { row := fnExactWithinStepUptoRow, standIns := [], harness := (true, "8f8a69a6e3d913b1b55e5ba32c611232e5887f6a603a8c9246b689e6d5dc37f2"), looks := false }, kinds := [], alts := [], laidByText := true, laidKinds := [.data], laidTests := true, laidLooks := .later }
def FnExactWithinStepUptoCardSaid : Prop := Claim7.holds Tryd.pinned (.plain (OpenSpec.upto fnExactWithinStepSpec)) fnExactWithinStepUptoCard

/-- THE SECOND FORM's CARD OF 'laws.FnExactLeastCounts'. -/
def fnExactLeastCountsUptoCard : Claim7 := { stood := { row := fnExactLeastCountsUptoRow, standIns := [], harness := (true, "8f8a69a6e3d913b1b55e5ba32c611232e5887f6a603a8c9246b689e6d5dc37f2"), looks := false }, kinds := [], alts := [], laidByText := true, laidKinds := [.data], laidTests := true, laidLooks := .later }
def FnExactLeastCountsUptoCardSaid : Prop := Claim7.holds Tryd.pinned (.plain (OpenSpec.upto fnExactLeastCountsSpec)) fnExactLeastCountsUptoCard

/-- THE SECOND FORM's CARD OF 'laws.FnExactMoveText'. -/
def fnExactMoveTextUptoCard : Claim7 := { stood := { row := fnExactMoveTextUptoRow, standIns := [], harness := (true, "8f8a69a6e3d913b1b55e5ba32c611232e5887f6a603a8c9246b689e6d5dc37f2"), looks := false }, kinds := [], alts := [], laidByText := true, laidKinds := [.data, .data, .data], laidTests := true, laidLooks := .later }
def FnExactMoveTextUptoCardSaid : Prop := Claim7.holds Tryd.pinned (.plain (OpenSpec.upto fnExactMoveTextSpec)) fnExactMoveTextUptoCard
end Rows
end Go.Proofs.YtagfleajkalgiaaDoor
