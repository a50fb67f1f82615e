/- The number of bits of a number of at most 12. No conditions but that. -/
import Derived.Test.YtfimjfchdaioeaaBase
import Derived.Deep.RegionHeld3
import Derived.Deep.DrawnRows
namespace Go.Proofs.Ytfimjfchdaioeaa
open Go.RowKit


attribute [local go_sem ↓] Go.wp_at_zero Go.wp_at_succ

set_option maxRecDepth 100000 in
set_option maxHeartbeats 1000000 in
theorem len64_any (n : Nat) (h : n ≤ 12) (w : World) : Calls Try.prog 104 #[.int .u64 (n : Int)] w fun e w' => (∃ m, e = .returned (.int .i64 m)) ∧ w = w' := by
  have : n = 0 ∨ n = 1 ∨ n = 2 ∨ n = 3 ∨ n = 4 ∨ n = 5 ∨ n = 6 ∨ n = 7 ∨ n = 8 ∨ n = 9 ∨ n = 10 ∨ n = 11 ∨ n = 12 := by omega
  rcases this with rfl | rfl | rfl | rfl | rfl | rfl | rfl | rfl | rfl | rfl | rfl | rfl | rfl
  all_goals
    go_enter Try.func104, Try.ntmps104
    go_wp2
    go_ret
    exact ⟨⟨_, rfl⟩, rfl⟩

set_option maxRecDepth 100000 in
set_option maxHeartbeats 1000000 in
theorem bitsLen_any (n : Nat) (h : n ≤ 12) (w : World) : Calls Try.prog 84 #[.int .u64 (n : Int)] w fun e w' => (∃ m, e = .returned (.int .i64 m)) ∧ w = w' := by
  have HL := Lib.hid (fun W => len64_any n h W)
  go_enter Try.func84, Try.ntmps84
  go_wp2_with (go_at_call 104; ((with_reducible refine (HL.out _).mono ?_); rintro e w' ⟨⟨m, rfl⟩, rfl⟩))
  go_ret
  exact ⟨⟨_, rfl⟩, rfl⟩

end Go.Proofs.Ytfimjfchdaioeaa
