/- The fastest measure and tempos, as the other side finds them. No conditions but those written in each theorem. -/
import Derived.Test.YtbpphcdhbbhjpaaDoorMuSpec
import Derived.Deep.RegionHeld3
import Derived.Deep.DrawnRows
import Derived.IntWalk
namespace Go.Proofs.YtbpphcdhbbhjpaaDoor
open Go.RowKit


attribute [local go_sem ↓] Go.wp_at_zero Go.wp_at_succ

end Go.Proofs.YtbpphcdhbbhjpaaDoor
