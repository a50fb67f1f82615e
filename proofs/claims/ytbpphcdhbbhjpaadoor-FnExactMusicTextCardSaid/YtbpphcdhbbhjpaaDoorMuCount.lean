/- Counts and times of music, as the other side reckons them: what each call does. No conditions but those written in each theorem. -/
import Derived.Test.YtbpphcdhbbhjpaaDoorMuSpec
import Derived.Deep.RegionHeld3
import Derived.Deep.DrawnRows
import Derived.IntWalk
namespace Go.Proofs.YtbpphcdhbbhjpaaDoor
open Go.RowKit


attribute [local go_sem ↓] Go.wp_at_zero Go.wp_at_succ

/-- Is there such a count? -/
def hasC (l : List (Int × Int)) (c : Int) : Bool := musOk l && inB 0 c (total l - 1)
/-- Is it a count, or the end? -/
def upTo (l : List (Int × Int)) (c : Int) : Bool := musOk l && inB 0 c (total l)
theorem hasC_iff {l : List (Int × Int)} {c : Int} : hasC l c = true ↔ musOk l = true ∧ 0 ≤ c ∧ c < total l := by
  unfold hasC
  rw [Bool.and_eq_true, inB_iff]
  constructor <;> (intro h; refine ⟨h.1, ?_, ?_⟩ <;> omega)
theorem upTo_iff {l : List (Int × Int)} {c : Int} : upTo l c = true ↔ musOk l = true ∧ 0 ≤ c ∧ c ≤ total l := by
  unfold upTo
  rw [Bool.and_eq_true, inB_iff]
theorem total_bound {l : List (Int × Int)} (h : musOk l = true) : 1 ≤ total l ∧ total l ≤ 480 := by
  have h1 := cn_bound h l.length (Nat.le_refl _)
  have h2 := musOk_len h
  unfold total
  omega
theorem atM_lt {l : List (Int × Int)} (h : musOk l = true) {c : Int} (h0 : 0 ≤ c) (h1 : c < total l) : atM l c < l.length ∧ cn l (atM l c) ≤ c ∧ c < cn l (atM l c + 1) := by
  obtain ⟨i, hi, h2, h3⟩ := at_exists h0 l.length h1
  have e : atM l c = i := idx_eq h h2 h3 (by omega) (Nat.le_refl _)
  rw [e]
  exact ⟨hi, h2, h3⟩

end Go.Proofs.YtbpphcdhbbhjpaaDoor
