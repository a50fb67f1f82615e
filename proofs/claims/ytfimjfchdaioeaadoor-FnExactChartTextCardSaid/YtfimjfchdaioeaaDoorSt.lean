/- Spots: on the field, squares. No conditions but those written in each theorem. -/
import Derived.Test.YtfimjfchdaioeaaDoorUtil
import Derived.Deep.RegionHeld3
import Derived.Deep.DrawnRows
namespace Go.Proofs.YtfimjfchdaioeaaDoor
open Go.RowKit

/-- Is the spot on the field? -/
def onField (x y : Int) : Bool := inB 0 x 1280 && inB 0 y 672
theorem onField_iff {x y : Int} : onField x y = true ↔ (0 ≤ x ∧ x ≤ 1280) ∧ (0 ≤ y ∧ y ≤ 672) := by simp [onField, inB]
theorem onField_mk {x y : Int} {a b : Bool} (ha : inB 0 x 1280 = a) (hb : inB 0 y 672 = b) : onField x y = (a && b) := by rw [onField, ha, hb]
theorem onField_mk1 {x y : Int} (ha : inB 0 x 1280 = false) : onField x y = false := by rw [onField, ha]; rfl

set_option maxHeartbeats 400000 in
theorem stGood_any (x y : Int) (w : World) :
    Calls Tryd.prog 17 #[.agg #[.int .i64 x, .int .i64 y]] w fun e w' => e = .returned (.bool (onField x y)) ∧ Below w.heap.size w w' := by
  cases h1 : inB 0 x 1280
  · have e0 := onField_mk1 (y := y) h1
    go_enter Tryd.func17, Tryd.ntmps17
    go_wp2_with (go_at_call 18; refine (l1In_any _ _ _ _).mono ?_; rintro e w' ⟨rfl, rfl⟩)
    go_ret
    exact ⟨by rw [e0]; rfl, (by repeat (first | exact Below.refl _ _ | assumption | refine Below.drew ?_ | refine below_drewN ?_ _ | refine Below.alloc ?_ (by first | omega | (simp; done) | (simp; omega)) _ | refine Below.setCell ?_ (by first | omega | (simp; done) | (simp; omega)) _ | refine Below.trans ?_ (Below.mono (by assumption) (by first | omega | (simp; done) | (simp; omega)))))⟩
  · cases h2 : inB 0 y 672
    all_goals
      have e0 := onField_mk h1 h2
      go_enter Tryd.func17, Tryd.ntmps17
      go_wp2_with (go_at_call 18; refine (l1In_any _ _ _ _).mono ?_; rintro e w' ⟨rfl, rfl⟩)
      go_ret
      exact ⟨by rw [e0]; rfl, (by repeat (first | exact Below.refl _ _ | assumption | refine Below.drew ?_ | refine below_drewN ?_ _ | refine Below.alloc ?_ (by first | omega | (simp; done) | (simp; omega)) _ | refine Below.setCell ?_ (by first | omega | (simp; done) | (simp; omega)) _ | refine Below.trans ?_ (Below.mono (by assumption) (by first | omega | (simp; done) | (simp; omega)))))⟩

set_option maxHeartbeats 400000 in
theorem isSpot_any (x y : Int) (w : World) :
    Calls Tryd.prog 23 #[.agg #[.int .i64 x, .int .i64 y]] w fun e w' => e = .returned (.bool (onField x y)) ∧ Below w.heap.size w w' := by
  cases h1 : inB 0 x 1280
  · have e0 := onField_mk1 (y := y) h1
    go_enter Tryd.func23, Tryd.ntmps23
    go_wp2_with (go_at_call 27; refine (inRange_any _ _ _ _).mono ?_; rintro e w' ⟨rfl, rfl⟩)
    go_ret
    exact ⟨by rw [e0]; rfl, (by repeat (first | exact Below.refl _ _ | assumption | refine Below.drew ?_ | refine below_drewN ?_ _ | refine Below.alloc ?_ (by first | omega | (simp; done) | (simp; omega)) _ | refine Below.setCell ?_ (by first | omega | (simp; done) | (simp; omega)) _ | refine Below.trans ?_ (Below.mono (by assumption) (by first | omega | (simp; done) | (simp; omega)))))⟩
  · cases h2 : inB 0 y 672
    all_goals
      have e0 := onField_mk h1 h2
      go_enter Tryd.func23, Tryd.ntmps23
      go_wp2_with (go_at_call 27; refine (inRange_any _ _ _ _).mono ?_; rintro e w' ⟨rfl, rfl⟩)
      go_ret
      exact ⟨by rw [e0]; rfl, (by repeat (first | exact Below.refl _ _ | assumption | refine Below.drew ?_ | refine below_drewN ?_ _ | refine Below.alloc ?_ (by first | omega | (simp; done) | (simp; omega)) _ | refine Below.setCell ?_ (by first | omega | (simp; done) | (simp; omega)) _ | refine Below.trans ?_ (Below.mono (by assumption) (by first | omega | (simp; done) | (simp; omega)))))⟩

/-- The square of two spots. -/
def sqr (x1 y1 x2 y2 : Int) : Int := (x1 - x2) * (x1 - x2) + (y1 - y2) * (y1 - y2)
theorem sq_bound {a m : Int} (h0 : -m ≤ a) (h1 : a ≤ m) : 0 ≤ a * a ∧ a * a ≤ m * m := by
  have h2 : 0 ≤ (m - a) * (m + a) := Int.mul_nonneg (by omega) (by omega)
  have h3 : (m - a) * (m + a) = m * m - a * a := by rw [Int.sub_mul, Int.mul_add, Int.mul_add, Int.mul_comm a m]; omega
  refine ⟨?_, by omega⟩
  by_cases h : 0 ≤ a
  · exact Int.mul_nonneg h h
  · exact Int.mul_nonneg_of_nonpos_of_nonpos (by omega) (by omega)

theorem sqr_bound {x1 y1 x2 y2 : Int} (h1 : onField x1 y1 = true) (h2 : onField x2 y2 = true) : 0 ≤ sqr x1 y1 x2 y2 ∧ sqr x1 y1 x2 y2 ≤ 2089984 := by
  obtain ⟨⟨a1, a2⟩, a3, a4⟩ := onField_iff.1 h1
  obtain ⟨⟨b1, b2⟩, b3, b4⟩ := onField_iff.1 h2
  obtain ⟨c1, c2⟩ := sq_bound (a := x1 - x2) (m := 1280) (by omega) (by omega)
  obtain ⟨d1, d2⟩ := sq_bound (a := y1 - y2) (m := 672) (by omega) (by omega)
  unfold sqr
  omega
theorem sqr_comm (x1 y1 x2 y2 : Int) : sqr x1 y1 x2 y2 = sqr x2 y2 x1 y1 := by
  unfold sqr
  rw [show x2 - x1 = -(x1 - x2) by omega, show y2 - y1 = -(y1 - y2) by omega, Int.neg_mul_neg, Int.neg_mul_neg]

end Go.Proofs.YtfimjfchdaioeaaDoor
