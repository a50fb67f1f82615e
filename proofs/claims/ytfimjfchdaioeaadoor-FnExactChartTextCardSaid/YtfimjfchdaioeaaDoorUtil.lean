/- Ranges, the lesser and the greater of two numbers: what each call does. No conditions but those written in each theorem. -/
import Derived.Test.YtfimjfchdaioeaaDoorBase
namespace Go.Proofs.YtfimjfchdaioeaaDoor
open Go.RowKit

set_option maxHeartbeats 400000 in
theorem inRange_any (n lo hi : Int) (w : World) :
    Calls Tryd.prog 27 #[.int .i64 n, .int .i64 lo, .int .i64 hi] w fun e w' => e = .returned (.bool (inB lo n hi)) ∧ w = w' := by
  by_cases h : lo ≤ n <;> by_cases h2 : n ≤ hi
  all_goals
    go_enter Tryd.func27, Tryd.ntmps27
    go_wp2
    go_ret
    exact ⟨by (have hh : inB lo n hi = decide (lo ≤ n ∧ n ≤ hi) := rfl); simp [hh]; try omega, rfl⟩


/-- The lesser, the greater of two numbers. -/
def lo2 (a b : Int) : Int := if a < b then a else b
def hi2 (a b : Int) : Int := if b < a then a else b
theorem lo2_min (a b : Int) : lo2 a b = min a b := by unfold lo2; split <;> omega
theorem hi2_max (a b : Int) : hi2 a b = max a b := by unfold hi2; split <;> omega
theorem lo2_yes {a b : Int} (h : a < b) : lo2 a b = a := if_pos h
theorem lo2_no {a b : Int} (h : ¬ a < b) : lo2 a b = b := if_neg h
theorem hi2_yes {a b : Int} (h : b < a) : hi2 a b = a := if_pos h
theorem hi2_no {a b : Int} (h : ¬ b < a) : hi2 a b = b := if_neg h

set_option maxHeartbeats 400000 in
theorem isPerformers_any (n : Int) (w : World) :
    Calls Tryd.prog 20 #[.int .i64 n] w fun e w' => e = .returned (.bool (inB 1 n 12)) ∧ w = w' := by
  skip
  all_goals
    go_enter Tryd.func20, Tryd.ntmps20
    go_wp2_with (go_at_call 27; (refine (inRange_any _ _ _ _).mono ?_; rintro e w' ⟨rfl, rfl⟩))
    go_ret
    exact ⟨rfl, rfl⟩

end Go.Proofs.YtfimjfchdaioeaaDoor
