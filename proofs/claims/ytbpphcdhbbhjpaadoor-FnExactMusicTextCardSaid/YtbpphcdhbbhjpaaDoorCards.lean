/-
  DERIVED. GIVEN WITH THE SEED: THE CARDS: each row of YtbpphcdhbbhjpaaDoorRows.lean that lists a variable, with what it lists TIED to the program's text (the seventh form; the later family's looks); each row that meets fmt, with fmt's text TOLD by the authors' own Lean function (tested against real Go, not proved from fmt's source: count such statements apart). THE CARD IS WHAT COUNTS. Prove the row's statement (the work); the ties are given (YtbpphcdhbbhjpaaDoorTie.lean); close each card by the builder's one call (the guide's Derived/Test/ToyasCard.lean, 'card_holds'). Laid BY PROGRAM, IN A SANDBOX (cutbox-door.mjs). By AI agents, Wed Nov 11 2026. No macro, syntax, notation, axiom, sorry.
-/
import Derived.Test.YtbpphcdhbbhjpaaDoorRows
import GoSem.ClaimSeven
namespace Go.Proofs.YtbpphcdhbbhjpaaDoor
namespace Rows

/-- THE TIED CARD OF 'laws.FnExactMusicText'. -/
def fnExactMusicTextCard : Claim7 := { stood := { row := fnExactMusicTextRow, standIns := [], harness := (true, "12b1b57fd91031c969b6293fcff83f462c381a08029d09b122d2db4165be1fa3"), looks := false }, kinds := [], alts := [], laidByText := true, laidKinds := [.data, .data, .data], laidTests := true, laidLooks := .later }
def FnExactMusicTextCardSaid : Prop := Claim7.holds Tryd.pinned (.plain (OpenSpec.ofChange fnExactMusicTextSpec)) fnExactMusicTextCard

/-- THE SECOND FORM's CARD OF 'laws.FnExactMusicText'. -/
def fnExactMusicTextUptoCard : Claim7 := { stood := { row := fnExactMusicTextUptoRow, standIns := [], harness := (true, "12b1b57fd91031c969b6293fcff83f462c381a08029d09b122d2db4165be1fa3"), looks := false }, kinds := [], alts := [], laidByText := true, laidKinds := [.data, .data, .data], laidTests := true, laidLooks := .later }
def FnExactMusicTextUptoCardSaid : Prop := Claim7.holds Tryd.pinned (.plain (OpenSpec.upto fnExactMusicTextSpec)) fnExactMusicTextUptoCard
end Rows
end Go.Proofs.YtbpphcdhbbhjpaaDoor
