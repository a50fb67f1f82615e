/- The least square of a chart, the program's side, and the room of a form, both sides. No conditions but those written in each theorem. -/
import Derived.Test.YtfimjfchdaioeaaChLeast
import Derived.Deep.RegionHeld3
import Derived.Deep.DrawnRows
import Derived.IntWalk
import Derived.Laws.AppendOwn
import Derived.Deep.AppendLies
import Derived.StillTailTactics
namespace Go.Proofs.Ytfimjfchdaioeaa
open Go.RowKit


attribute [local go_sem ↓] Go.wp_at_zero Go.wp_at_succ

theorem minF : ∀ a b : Int, (if b < a then b else a) = lo2 a b := fun a b => by unfold lo2; split <;> split <;> omega
/-- Some pair has this square. -/
def HasSq (l : List (Int × Int)) (v : Int) : Prop := ∃ i k, i < k ∧ k < l.length ∧ v = sqp l i k
/-- No pair of the first n spots has a less one. -/
def AllSq (l : List (Int × Int)) (v : Int) (n : Nat) : Prop := ∀ i k, i < k → k < n → v ≤ sqp l i k
theorem HasSq.bound {l : List (Int × Int)} (h : allOn l = true) {v : Int} (hs : HasSq l v) : 0 ≤ v ∧ v ≤ 2089984 := by
  obtain ⟨i, k, hik, hk, rfl⟩ := hs
  exact sqp_bound h (by omega) hk
theorem HasSq.lo {l : List (Int × Int)} {v : Int} (hs : HasSq l v) {i k : Nat} (hik : i < k) (hk : k < l.length) : HasSq l (lo2 v (sqp l i k)) := by
  unfold lo2
  split
  · exact hs
  · exact ⟨i, k, hik, hk, rfl⟩
theorem lo2_le (a b : Int) : lo2 a b ≤ a ∧ lo2 a b ≤ b := by unfold lo2; split <;> omega
/-- The room of a form. -/
def roomV (l : List (Int × Int)) : Int := guardI (chOk l) (hi2 0 (leastV l))
theorem room_one {l : List (Int × Int)} (h : l.length = 1) : roomV l = 0 := by
  unfold roomV
  rw [leastV_one h]
  cases chOk l <;> rfl
theorem room_more {l : List (Int × Int)} (h : chOk l = true) (h2 : 2 ≤ l.length) {v : Int} (hv : IsLeast l v) : roomV l = v := by
  have hl := leastV_is (chOk_parts h).1 h2
  have e := IsLeast.eq hl.1 hv
  have h0 := hl.2.1
  unfold roomV
  rw [h, ← e]
  show hi2 0 (leastV l) = leastV l
  unfold hi2
  rw [if_neg (by omega)]

end Go.Proofs.Ytfimjfchdaioeaa
