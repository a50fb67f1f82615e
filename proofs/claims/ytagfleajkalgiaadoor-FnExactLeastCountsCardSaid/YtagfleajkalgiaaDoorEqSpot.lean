/- Lists of Spot: comparison. No conditions but those written in each theorem. -/
import Derived.Test.YtagfleajkalgiaaDoorPairs
import Derived.Deep.RegionHeld3
import Derived.Deep.DrawnRows
namespace Go.Proofs.YtagfleajkalgiaaDoor
open Go.RowKit


attribute [local go_sem ↓] Go.wp_at_zero Go.wp_at_succ

end Go.Proofs.YtagfleajkalgiaaDoor
