/- Lists of Spot: marks. No conditions but those written in each theorem. -/
import Derived.Test.YtfimjfchdaioeaaPairs
import Derived.Deep.RegionHeld3
import Derived.Deep.DrawnRows
namespace Go.Proofs.Ytfimjfchdaioeaa
open Go.RowKit


attribute [local go_sem ↓] Go.wp_at_zero Go.wp_at_succ

set_option maxHeartbeats 1000000 in
theorem markSpotS_nil (w : World) :
    Calls Try.prog 25 #[.slice none 0 0, .int .i64 1] w fun e w' => e = .returned (.int .i64 1) ∧ w = w' := by
  go_enter Try.func25, Try.ntmps25
  go_wp2
  refine wp_loop_rounds 1 ?_
  rw [rounds_succ]
  go_wp2
  go_ret
  exact ⟨rfl, rfl⟩

set_option maxHeartbeats 1000000 in
theorem markSpotS_row (g n cap : Nat) (h : Nat → Value) (hl : n ≤ 1048576) {w : World} (ho : w.rowIs g 41 (n * 2) h) :
    Calls Try.prog 25 #[.slice (some ⟨g, 0, none⟩) n cap, .int .i64 1] w fun e w' => e = .returned (.int .i64 (1 + 2 * n)) ∧ w.grownBy w' (some g) := by
  go_enter Try.func25, Try.ntmps25
  go_wp2
  go_loopw [1, 5] (fun m i wr => ∃ (k : Nat) (h' : Nat → Value), k ≤ n ∧ i = .int .i64 k ∧ m = .int .i64 (1 + 2 * k) ∧ wr.rowIs g 41 (n * 2) h' ∧ w.grownBy wr (some g)) (fun _ i _ => n - (intOf i).toNat)
  case atStart => exact ⟨0, h, Nat.zero_le _, rfl, rfl, ho, gb_refl _ _⟩
  case round =>
    obtain ⟨k, h', hk, rfl, rfl, hrow, hg⟩ := hrel
    by_cases hlt : k < n
    · have r2 := (hrow.set (k * 2) (.int .i64 (1 + 2 * (k : Int)))).set (k * 2 + 1) (.int .i64 (1 + 2 * (k : Int) + 1))
      have R2 := Lib.hid r2
      clear r2
      obtain ⟨u0, e0⟩ : ∃ u, u = h' (k * 2) := ⟨_, rfl⟩
      obtain ⟨u1, e1⟩ : ∃ u, u = h' (k * 2 + 1) := ⟨_, rfl⟩
      have c0 := hrow.cell (i := k * 2) (by omega)
      have c1 := hrow.cell (i := k * 2 + 1) (by omega)
      rw [← e0] at c0
      rw [← e1] at c1
      have f0 := hrow.frozen (k * 2)
      have f1 := hrow.frozen (k * 2 + 1)
      clear e0 e1
      have i0 : (0 : Int) ≤ (k : Int) := by omega
      have i1 : (k : Int) < (n : Int) := by omega
      go_wp2
      go_roundw
      case rel => exact ⟨k + 1, _, by omega, by go_num, by go_num, R2.out, gb_trans (gb_trans hg (gb_set _ _ _ _)) (gb_set _ _ _ _)⟩
      case measure => simp [intOf]; omega
    · obtain rfl : k = n := by omega
      go_wp2
      go_ret
      exact ⟨rfl, hg⟩

theorem set_markSpot (ys : List Value) (k : Nat) (h : k * 2 + 1 < ys.length) (hp : ∀ j, j < k → ys[j * 2]? = some (.int .i64 (1 + 2 * (j : Int))) ∧ ys[j * 2 + 1]? = some (.int .i64 (1 + 2 * (j : Int) + 1))) :
    ∀ j, j < k + 1 → ((ys.set (k * 2) (.int .i64 (1 + 2 * (k : Int)))).set (k * 2 + 1) (.int .i64 (1 + 2 * (k : Int) + 1)))[j * 2]? = some (.int .i64 (1 + 2 * (j : Int))) ∧ ((ys.set (k * 2) (.int .i64 (1 + 2 * (k : Int)))).set (k * 2 + 1) (.int .i64 (1 + 2 * (k : Int) + 1)))[j * 2 + 1]? = some (.int .i64 (1 + 2 * (j : Int) + 1)) := by
  intro j hj
  by_cases e : j = k
  · subst e
    refine ⟨?_, ?_⟩
    · rw [List.getElem?_set_ne (by omega), List.getElem?_set_self (by omega)]
    · rw [List.getElem?_set_self (by simp; omega)]
  · obtain ⟨h1, h2⟩ := hp j (by omega)
    refine ⟨?_, ?_⟩
    · rw [List.getElem?_set_ne (by omega), List.getElem?_set_ne (by omega), h1]
    · rw [List.getElem?_set_ne (by omega), List.getElem?_set_ne (by omega), h2]
set_option maxHeartbeats 1000000 in
theorem markSpotS_own (base g cap n : Nat) (xs : List Value) (hl : n ≤ 1048576) {w : World} (ho : w.ownsRow base 41 2 (.slice (some ⟨g, 0, none⟩) n cap) n xs) :
    Calls Try.prog 25 #[.slice (some ⟨g, 0, none⟩) n cap, .int .i64 1] w fun e w' => e = .returned (.int .i64 (1 + 2 * n)) ∧ PairsAt w' (some ⟨g, 0, none⟩) (marks2 n) ∧ w.grownBy w' (some g) := by
  go_enter Try.func25, Try.ntmps25
  go_wp2
  go_loopw [1, 5] (fun m i wr => ∃ (k : Nat) (ys : List Value), k ≤ n ∧ i = .int .i64 k ∧ m = .int .i64 (1 + 2 * k) ∧ (∀ j, j < k → ys[j * 2]? = some (.int .i64 (1 + 2 * (j : Int))) ∧ ys[j * 2 + 1]? = some (.int .i64 (1 + 2 * (j : Int) + 1))) ∧ wr.ownsRow base 41 2 (.slice (some ⟨g, 0, none⟩) n cap) n ys ∧ w.grownBy wr (some g)) (fun _ i _ => n - (intOf i).toNat)
  case atStart => exact ⟨0, xs, Nat.zero_le _, rfl, rfl, fun j h => absurd h (Nat.not_lt_zero j), ho, gb_refl _ _⟩
  case round =>
    obtain ⟨k, ys, hk, rfl, rfl, hp, hown, hg⟩ := hrel
    have Hp := Lib.hid hp
    clear hp
    by_cases hlt : k < n
    · have hyl := hown.1
      have hst := hown.stored (k * 2) (.int .i64 (1 + 2 * (k : Int)))
      have hst2 := hst.1.stored (k * 2 + 1) (.int .i64 (1 + 2 * (k : Int) + 1))
      have hsm := set_markSpot ys k (by omega) Hp.out
      have Hsm := Lib.hid hsm
      have Hst := Lib.hid (show _ ∧ _ from ⟨hst2.1, gb_trans hst.2 hst2.2⟩)
      have hc0 := hown.cellAt (k * 2) (by omega)
      have hc1 := hown.cellAt (k * 2 + 1) (by omega)
      obtain ⟨u, hu⟩ : ∃ u, ys[k * 2]? = some u := ⟨_, List.getElem?_eq_getElem (by omega)⟩
      obtain ⟨u', hu'⟩ : ∃ u, ys[k * 2 + 1]? = some u := ⟨_, List.getElem?_eq_getElem (by omega)⟩
      have c0 : wr.cell? ⟨g, k * 2, none⟩ = some u := hc0.trans hu
      have c1 : wr.cell? ⟨g, k * 2 + 1, none⟩ = some u' := hc1.trans hu'
      have f0 := hown.frozenAt (k * 2)
      have f1 := hown.frozenAt (k * 2 + 1)
      clear hst hst2 hsm hyl hc0 hu hc1 hu'
      have i0 : (0 : Int) ≤ (k : Int) := by omega
      have i1 : (k : Int) < (n : Int) := by omega
      go_wp2
      go_roundw
      case rel => exact ⟨k + 1, _, by omega, by go_num, by go_num, Hsm.out, Hst.out.1, gb_trans hg Hst.out.2⟩
      case measure => simp [intOf]; omega
    · obtain rfl : k = n := by omega
      go_wp2
      go_ret
      refine ⟨rfl, ?_, hg⟩
      intro i hi
      rw [marks2_length] at hi
      refine ⟨g, 0, rfl, ?_, ?_⟩
      · rw [Nat.zero_add, hown.cellAt (i * 2) (by omega), marks2_x k i hi]
        exact (Hp.out i hi).1
      · rw [Nat.zero_add, hown.cellAt (i * 2 + 1) (by omega), marks2_y k i hi]
        exact (Hp.out i hi).2

theorem markSpotS_any (a : Option Addr) (base cap : Nat) (l : List (Int × Int)) (hl : l.length ≤ 1048576) {w : World} (ho : OwnPairs 41 w base (.slice a l.length cap) l) :
    Calls Try.prog 25 #[.slice a l.length cap, .int .i64 1] w fun e w' => e = .returned (.int .i64 (1 + 2 * l.length)) ∧ PairsAt w' a (marks2 l.length) ∧ w.grownBy w' (a.map (·.block)) := by
  rcases own_formP ho with ⟨h1, rfl⟩ | ⟨g, cap', h1, _, _⟩
  · simp only [List.length_nil, Value.slice.injEq, and_true, true_and] at h1
    obtain ⟨rfl, rfl⟩ := h1
    refine (markSpotS_nil w).mono fun e w' ⟨he, hw⟩ => ⟨by rw [he]; rfl, fun i hi => by rw [marks2_length] at hi; exact absurd hi (Nat.not_lt_zero i), by rw [← hw]; exact gb_refl _ _⟩
  · simp only [Value.slice.injEq, true_and] at h1
    obtain ⟨rfl, rfl⟩ := h1
    exact markSpotS_own base g cap l.length (pairV l) hl ho

set_option maxHeartbeats 1000000 in
theorem heldSpotS_marks (a : Option Addr) (cap n : Nat) (hl : n ≤ 1048576) {w : World} (ha : PairsAt w a (marks2 n)) :
    Calls Try.prog 26 #[.slice a n cap, .int .i64 1] w fun e w' => e = .returned (.int .i64 (1 + 2 * n)) ∧ w = w' := by
  go_enter Try.func26, Try.ntmps26
  go_wp2
  go_loop [1, 5] (fun m i => ∃ k : Nat, k ≤ n ∧ i = .int .i64 k ∧ m = .int .i64 (1 + 2 * k)) (fun _ i => n - (intOf i).toNat)
  case atStart => exact ⟨0, Nat.zero_le _, rfl, rfl⟩
  case round =>
    obtain ⟨k, hk, rfl, rfl⟩ := hrel
    by_cases hlt : k < n
    · obtain ⟨b, off, rfl, c0, c1⟩ := ha k (by rw [marks2_length]; exact hlt)
      rw [marks2_x n k hlt] at c0
      rw [marks2_y n k hlt] at c1
      have i0 : (0 : Int) ≤ (k : Int) := by omega
      have i1 : (k : Int) < (n : Int) := by omega
      go_wp2
      go_round
      case rel => exact ⟨k + 1, by omega, by go_num, by go_num⟩
      case measure => simp [intOf]; omega
    · obtain rfl : k = n := by omega
      go_wp2
      go_ret
      exact ⟨rfl, rfl⟩

end Go.Proofs.Ytfimjfchdaioeaa
