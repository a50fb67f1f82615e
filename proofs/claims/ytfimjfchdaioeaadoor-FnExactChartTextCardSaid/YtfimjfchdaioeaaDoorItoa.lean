/- Decimal texts by the library. Conditions: the number's range; the library's table of powers of ten reads as it is laid. -/
import Derived.Test.YtfimjfchdaioeaaDoorShelf
import Derived.Test.YtfimjfchdaioeaaDoorNum
import Derived.Lib.AppendIntMem
namespace Go.Proofs.YtfimjfchdaioeaaDoor
open Go.RowKit


def tabName : String := "internal/strconv.uint64pow10"
/-- The table reads so now, and in every world that leaves what is below B alone. -/
def Tab (B : Nat) (w : World) : Prop := Lib.TabBelow Tryd.prog B w tabName .u64 Lib.pow10Tab
theorem Tab.go {B : Nat} {w w' : World} (h : Tab B w) (hb : Below B w w') : Tab B w' := fun x hx => h x (hb.trans hx)
set_option maxHeartbeats 400000 in
theorem itoa_any (m : Int) (h0 : 0 ≤ m) (h1 : m ≤ 1000000) (w : World) (ht : Lib.TabIs Tryd.prog w tabName .u64 Lib.pow10Tab) :
    Calls Tryd.prog 28 #[.int .i64 m] w fun e w' => e = .returned (.string (decT m.toNat)) ∧ Below w.heap.size w w' := by
  refine (Tryd.strconv_Itoa m (by omega) (by omega) w ht).mono ?_
  rintro e w' ⟨he, k, os, hw⟩
  refine ⟨?_, ?_⟩
  · rw [he]
    obtain ⟨n, rfl⟩ := Int.eq_ofNat_of_zero_le h0
    rw [Lib.itoa_nonneg]
    rfl
  · rw [hw]
    exact Lib.below_grow _ _ (Nat.le_refl _) _ _

end Go.Proofs.YtfimjfchdaioeaaDoor
