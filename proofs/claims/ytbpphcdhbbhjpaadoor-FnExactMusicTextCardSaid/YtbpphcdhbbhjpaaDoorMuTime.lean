/- Times of music, as the other side reckons them: what each call does. No conditions but those written in each theorem. -/
import Derived.Test.YtbpphcdhbbhjpaaDoorMuCount
import Derived.Deep.RegionHeld3
import Derived.Deep.DrawnRows
import Derived.IntWalk
namespace Go.Proofs.YtbpphcdhbbhjpaaDoor
open Go.RowKit


attribute [local go_sem ↓] Go.wp_at_zero Go.wp_at_succ

/-- Is there a count at the time? -/
def canAt (l : List (Int × Int)) (t : Int) : Bool := musOk l && inB 0 t (timeM l (total l) - 1)
theorem canAt_iff {l : List (Int × Int)} {t : Int} : canAt l t = true ↔ musOk l = true ∧ 0 ≤ t ∧ t < timeM l (total l) := by
  unfold canAt
  rw [Bool.and_eq_true, inB_iff]
  constructor <;> (intro h; refine ⟨h.1, ?_, ?_⟩ <;> omega)
theorem canAt_no {l : List (Int × Int)} {t : Int} (hm : musOk l = true) (h : canAt l t = false) : inB 0 t (timeM l (total l) - 1) = false := by
  unfold canAt at h
  rw [hm] at h
  exact h
theorem canAt_yes {l : List (Int × Int)} {t : Int} (hm : musOk l = true) (h : canAt l t = true) : inB 0 t (timeM l (total l) - 1) = true := by
  unfold canAt at h
  rw [hm] at h
  exact h
/-- The count at a time. -/
def cntAt (l : List (Int × Int)) (t : Int) : Int := lastC l t (total l).toNat
theorem cntAt_eq {l : List (Int × Int)} (h : musOk l = true) {t : Int} {c : Nat} (h1 : timeM l c ≤ t) (h2 : t < timeM l ((c : Int) + 1)) (h3 : (c : Int) ≤ total l) : cntAt l t = c := by
  have := total_bound h
  exact lastC_eq h h1 h2 (by omega) (by omega)

/-- May times from one count to another be asked? -/
def canLast (l : List (Int × Int)) (c d : Int) : Bool := upTo l c && upTo l d && decide (c ≤ d)
theorem canLast_iff {l : List (Int × Int)} {c d : Int} : canLast l c d = true ↔ upTo l c = true ∧ upTo l d = true ∧ c ≤ d := by
  unfold canLast
  simp [and_assoc]

end Go.Proofs.YtbpphcdhbbhjpaaDoor
