/- Ranges, the lesser and the greater of two numbers: what each call does. No conditions but those written in each theorem. -/
import Derived.Test.YtjojjmmdgldcbaaBase
namespace Go.Proofs.Ytjojjmmdgldcbaa
open Go.RowKit

set_option maxHeartbeats 400000 in
theorem inRange_any (n lo hi : Int) (w : World) :
    Calls Try.prog 59 #[.int .i64 n, .int .i64 lo, .int .i64 hi] w fun e w' => e = .returned (.bool (inB lo n hi)) ∧ w = w' := by
  by_cases h : lo ≤ n <;> by_cases h2 : n ≤ hi
  all_goals
    go_enter Try.func59, Try.ntmps59
    go_wp2
    go_ret
    exact ⟨by (have hh : inB lo n hi = decide (lo ≤ n ∧ n ≤ hi) := rfl); simp [hh]; try omega, rfl⟩


/-- The lesser, the greater of two numbers. -/
def lo2 (a b : Int) : Int := if a < b then a else b
def hi2 (a b : Int) : Int := if b < a then a else b
theorem lo2_min (a b : Int) : lo2 a b = min a b := by unfold lo2; split <;> omega
theorem hi2_max (a b : Int) : hi2 a b = max a b := by unfold hi2; split <;> omega
theorem lo2_yes {a b : Int} (h : a < b) : lo2 a b = a := if_pos h
theorem lo2_no {a b : Int} (h : ¬ a < b) : lo2 a b = b := if_neg h
theorem hi2_yes {a b : Int} (h : b < a) : hi2 a b = a := if_pos h
theorem hi2_no {a b : Int} (h : ¬ b < a) : hi2 a b = b := if_neg h

set_option maxHeartbeats 400000 in
theorem l1Least_any (a b : Int) (w : World) :
    Calls Try.prog 93 #[.int .i64 a, .int .i64 b] w fun e w' => e = .returned (.int .i64 (lo2 a b)) ∧ w = w' := by
  by_cases h : a < b
  all_goals
    first | (have e0 := lo2_yes h) | (have e0 := lo2_no h)
    have E0 := Lib.hid e0
    clear e0
    go_enter Try.func93, Try.ntmps93
    go_wp2
    go_ret
    exact ⟨by rw [E0.out]; rfl, rfl⟩

set_option maxHeartbeats 400000 in
theorem l1Most_any (a b : Int) (w : World) :
    Calls Try.prog 87 #[.int .i64 a, .int .i64 b] w fun e w' => e = .returned (.int .i64 (hi2 a b)) ∧ w = w' := by
  by_cases h : b < a
  all_goals
    first | (have e0 := hi2_yes h) | (have e0 := hi2_no h)
    have E0 := Lib.hid e0
    clear e0
    go_enter Try.func87, Try.ntmps87
    go_wp2
    go_ret
    exact ⟨by rw [E0.out]; rfl, rfl⟩

end Go.Proofs.Ytjojjmmdgldcbaa
