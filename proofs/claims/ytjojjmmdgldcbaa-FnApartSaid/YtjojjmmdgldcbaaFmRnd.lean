/- Rounded quotients, both sides. Conditions: the bounds written in each theorem. -/
import Derived.Test.YtjojjmmdgldcbaaSt
import Derived.Deep.RegionHeld3
import Derived.Deep.DrawnRows
import Derived.IntWalk
namespace Go.Proofs.Ytjojjmmdgldcbaa
open Go.RowKit


/-- The quotient, rounded to the nearest, halves up. -/
def rnd (a b : Int) : Int := (2 * a + b) / (2 * b)
theorem tdiv_up {a m : Int} (hm : 0 < m) (h : a.tmod m < 0) : a / m = a.tdiv m - 1 := by
  rw [Int.tdiv_eq_ediv, Int.tmod_eq_emod] at *
  have h0 := Int.emod_nonneg a (show m ≠ 0 by omega)
  by_cases hc : 0 ≤ a ∨ m ∣ a
  · rw [if_pos hc] at h; omega
  · rw [if_neg hc, Int.sign_eq_one_of_pos hm]; omega
theorem tdiv_same {a m : Int} (hm : 0 < m) (h : ¬ a.tmod m < 0) : a / m = a.tdiv m := by
  rw [Int.tdiv_eq_ediv, Int.tmod_eq_emod] at *
  have h0 := Int.emod_lt_of_pos a hm
  by_cases hc : 0 ≤ a ∨ m ∣ a
  · rw [if_pos hc]; omega
  · rw [if_neg hc] at h; omega
theorem tmod_zero {a m : Int} (hm : 0 < m) (h : a < 0) : a.tmod m < 0 ↔ ¬ a.tmod m = 0 := by
  have h1 : a.tmod m ≤ 0 := by
    have := Int.tmod_nonneg (a := -a) m (by omega)
    rw [Int.neg_tmod] at this
    omega
  omega
theorem tmod_pos {a m : Int} (h : 0 ≤ a) : ¬ a.tmod m < 0 := by
  have := Int.tmod_nonneg (a := a) m h
  omega
/-- A quotient within bounds. -/
theorem tdiv_bound {a m : Int} (hm : 2 ≤ m) (h0 : -4000000000000 ≤ a) (h1 : a ≤ 4000000000000) : -4000000000000 ≤ a.tdiv m ∧ a.tdiv m ≤ 4000000000000 := by
  have h2 : a.tdiv m = a / m ∨ a.tdiv m = a / m + 1 := by
    by_cases h : a.tmod m < 0
    · have := tdiv_up (show 0 < m by omega) h; omega
    · have := tdiv_same (show 0 < m by omega) h; omega
  have h3 : a / m ≤ 2000000000000 := by
    have h4 : a / m ≤ a / 2 ∨ a < 0 := by
      by_cases h5 : 0 ≤ a
      · left
        have h7 : a / m * 2 ≤ a := by
          have h8 : 0 ≤ a / m := Int.ediv_nonneg h5 (by omega)
          have h9 : a / m * 2 ≤ a / m * m := Int.mul_le_mul_of_nonneg_left hm h8
          have h10 := Int.ediv_mul_le a (show m ≠ 0 by omega)
          omega
        omega
      · right; omega
    rcases h4 with h4 | h4
    · omega
    · have : a / m < 0 := Int.ediv_neg_of_neg_of_pos h4 (by omega)
      omega
  have h4 : -4000000000000 ≤ a / m := by
    refine Int.le_ediv_of_mul_le (by omega) ?_
    have : (-4000000000000 : Int) * m ≤ -4000000000000 := by omega
    omega
  omega

end Go.Proofs.Ytjojjmmdgldcbaa
