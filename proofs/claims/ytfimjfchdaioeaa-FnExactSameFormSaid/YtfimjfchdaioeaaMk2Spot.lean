/- Lists of Spot: sizes and marks from any number on. Conditions: those written in each theorem. -/
import Derived.Test.YtfimjfchdaioeaaToSpot
import Derived.Test.YtfimjfchdaioeaaMkSpot
import Derived.Deep.RegionHeld3
import Derived.Deep.DrawnRows
import Derived.IntWalk
namespace Go.Proofs.Ytfimjfchdaioeaa
open Go.RowKit


attribute [local go_sem ↓] Go.wp_at_zero Go.wp_at_succ

set_option maxHeartbeats 400000 in
theorem szSpotS_fitsK (a : Option Addr) (cap n : Nat) (L : Int) (h0 : 0 ≤ L) (hL : L ≤ 1048576) (hn : (n : Int) ≤ L) (w : World) :
    Calls Try.prog 14 #[.slice a n cap, .int .i64 L] w fun e w' => e = .returned (.int .i64 (L - n)) ∧ w = w' := by
  skip
  all_goals
    go_enter Try.func14, Try.ntmps14
    go_wp2
    go_ret
    exact ⟨rfl, rfl⟩

set_option maxHeartbeats 400000 in
theorem szSpotS_overK (a : Option Addr) (cap n : Nat) (L : Int) (h0 : 0 ≤ L) (hL : L ≤ 1048576) (hn : L < (n : Int)) (hm : n ≤ 9223372036854775807) (w : World) :
    Calls Try.prog 14 #[.slice a n cap, .int .i64 L] w fun e w' => e = .returned (.int .i64 (-1)) ∧ w = w' := by
  skip
  all_goals
    go_enter Try.func14, Try.ntmps14
    go_wp2
    go_ret
    exact ⟨rfl, rfl⟩

set_option maxHeartbeats 1000000 in
theorem markSpotS_rowK (g n cap : Nat) (h : Nat → Value) (hl : n ≤ 1048576) (s : Int) (s0 : 0 ≤ s) (s1 : s ≤ 10000000) {w : World} (ho : w.rowIs g 41 (n * 2) h) :
    Calls Try.prog 25 #[.slice (some ⟨g, 0, none⟩) n cap, .int .i64 s] w fun e w' => e = .returned (.int .i64 (s + 2 * n)) ∧ w.grownBy w' (some g) := by
  go_enter Try.func25, Try.ntmps25
  go_wp2
  go_loopw [1, 5] (fun m i wr => ∃ (k : Nat) (h' : Nat → Value), k ≤ n ∧ i = .int .i64 k ∧ m = .int .i64 (s + 2 * k) ∧ wr.rowIs g 41 (n * 2) h' ∧ w.grownBy wr (some g)) (fun _ i _ => n - (intOf i).toNat)
  case atStart => exact ⟨0, h, Nat.zero_le _, rfl, by go_num, ho, gb_refl _ _⟩
  case round =>
    obtain ⟨k, h', hk, rfl, rfl, hrow, hg⟩ := hrel
    by_cases hlt : k < n
    · have r2 := (hrow.set (k * 2) (.int .i64 (s + 2 * (k : Int)))).set (k * 2 + 1) (.int .i64 (s + 2 * (k : Int) + 1))
      have R2 := Lib.hid r2
      clear r2
      obtain ⟨u0, e0⟩ : ∃ u, u = h' (k * 2) := ⟨_, rfl⟩
      obtain ⟨u1, e1⟩ : ∃ u, u = h' (k * 2 + 1) := ⟨_, rfl⟩
      have c0 := hrow.cell (i := k * 2) (by omega)
      have c1 := hrow.cell (i := k * 2 + 1) (by omega)
      rw [← e0] at c0
      rw [← e1] at c1
      have f0 := hrow.frozen (k * 2)
      have f1 := hrow.frozen (k * 2 + 1)
      clear e0 e1
      have i0 : (0 : Int) ≤ (k : Int) := by omega
      have i1 : (k : Int) < (n : Int) := by omega
      have v1 : IntKind.i64.wrap (s + 2 * (k : Int) + 1) = s + 2 * (k : Int) + 1 := IntWalk.i64_in _ (by omega)
      have v2 : IntKind.i64.wrap (s + 2 * (k : Int) + 1 + 1) = s + 2 * (k : Int) + 1 + 1 := IntWalk.i64_in _ (by omega)
      go_wp2
      go_roundw
      case rel => exact ⟨k + 1, _, by omega, by go_num, by go_num, R2.out, gb_trans (gb_trans hg (gb_set _ _ _ _)) (gb_set _ _ _ _)⟩
      case measure => simp [intOf]; omega
    · obtain rfl : k = n := by omega
      go_wp2
      go_ret
      exact ⟨rfl, hg⟩

end Go.Proofs.Ytfimjfchdaioeaa
