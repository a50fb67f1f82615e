/- The closest pair of a chart: mathematics, the specification's side. No conditions but those written in each theorem. -/
import Derived.Test.YtmflgcikclikeaaChLeast
import Derived.Deep.RegionHeld3
import Derived.Deep.DrawnRows
import Derived.IntWalk
namespace Go.Proofs.Ytmflgcikclikeaa
open Go.RowKit


attribute [local go_sem ↓] Go.wp_at_zero Go.wp_at_succ

/-- A chart with two performers or more. -/
def clOk (l : List (Int × Int)) : Bool := chOk l && decide (2 ≤ l.length)
theorem clOk_ch {l : List (Int × Int)} (h : chOk l = false) : clOk l = false := by unfold clOk; rw [h]; rfl
theorem clOk_len {l : List (Int × Int)} (h : l.length < 2) : clOk l = false := by unfold clOk; rw [decide_eq_false (by omega), Bool.and_false]
theorem clOk_yes {l : List (Int × Int)} (h : chOk l = true) (h2 : 2 ≤ l.length) : clOk l = true := by unfold clOk; rw [h, decide_eq_true h2]; rfl
theorem clOk_not {l : List (Int × Int)} (h1 : l.length ≠ 1) : clOk l = chOk l := by
  cases h : chOk l
  · exact clOk_ch h
  · exact clOk_yes h (by have := (chOk_parts h).2.2.1; omega)
/-- The closest pair is one of the chart, with the least square. -/
theorem best_at {l : List (Int × Int)} (h : allOn l = true) (h2 : 2 ≤ l.length) : (bestB l).a < (bestB l).b ∧ (bestB l).b < l.length ∧ leastV l = sqp l (bestB l).a (bestB l).b := by
  obtain ⟨f1, f2⟩ := Fine.out h l.length (Nat.le_refl _)
  have h0 := f2 0 1 (by omega) (by omega) (by omega)
  unfold leastV bestB
  rcases f1 with f1 | f1
  · omega
  · exact ⟨f1.2.2.1, f1.2.2.2.1, f1.2.2.2.2⟩

end Go.Proofs.Ytmflgcikclikeaa
