/- Lists of Spot: marks. No conditions but those written in each theorem. -/
import Derived.Test.YtfimjfchdaioeaaDoorPairs
import Derived.Deep.RegionHeld3
import Derived.Deep.DrawnRows
namespace Go.Proofs.YtfimjfchdaioeaaDoor
open Go.RowKit


attribute [local go_sem ↓] Go.wp_at_zero Go.wp_at_succ

theorem set_markSpot (ys : List Value) (k : Nat) (h : k * 2 + 1 < ys.length) (hp : ∀ j, j < k → ys[j * 2]? = some (.int .i64 (1 + 2 * (j : Int))) ∧ ys[j * 2 + 1]? = some (.int .i64 (1 + 2 * (j : Int) + 1))) :
    ∀ j, j < k + 1 → ((ys.set (k * 2) (.int .i64 (1 + 2 * (k : Int)))).set (k * 2 + 1) (.int .i64 (1 + 2 * (k : Int) + 1)))[j * 2]? = some (.int .i64 (1 + 2 * (j : Int))) ∧ ((ys.set (k * 2) (.int .i64 (1 + 2 * (k : Int)))).set (k * 2 + 1) (.int .i64 (1 + 2 * (k : Int) + 1)))[j * 2 + 1]? = some (.int .i64 (1 + 2 * (j : Int) + 1)) := by
  intro j hj
  by_cases e : j = k
  · subst e
    refine ⟨?_, ?_⟩
    · rw [List.getElem?_set_ne (by omega), List.getElem?_set_self (by omega)]
    · rw [List.getElem?_set_self (by simp; omega)]
  · obtain ⟨h1, h2⟩ := hp j (by omega)
    refine ⟨?_, ?_⟩
    · rw [List.getElem?_set_ne (by omega), List.getElem?_set_ne (by omega), h1]
    · rw [List.getElem?_set_ne (by omega), List.getElem?_set_ne (by omega), h2]
end Go.Proofs.YtfimjfchdaioeaaDoor
