/- Is a spot between two others: what each call does. No conditions but those written in each theorem. -/
import Derived.Test.YthmgbfnjkiehcaaSquare
namespace Go.Proofs.Ythmgbfnjkiehcaa
open Go.RowKit


theorem prod_bound {a b m n : Int} (a0 : -m ≤ a) (a1 : a ≤ m) (b0 : -n ≤ b) (b1 : b ≤ n) (hm : 0 ≤ m) : -(m * n) ≤ a * b ∧ a * b ≤ m * n := by
  have hn : 0 ≤ n := by omega
  have h1 : 0 ≤ (m - a) * (n + b) := Int.mul_nonneg (by omega) (by omega)
  have h2 : 0 ≤ (m + a) * (n - b) := Int.mul_nonneg (by omega) (by omega)
  have h3 : 0 ≤ (m - a) * (n - b) := Int.mul_nonneg (by omega) (by omega)
  have h4 : 0 ≤ (m + a) * (n + b) := Int.mul_nonneg (by omega) (by omega)
  have e1 : (m - a) * (n + b) = m * n + m * b - a * n - a * b := by rw [Int.sub_mul, Int.mul_add, Int.mul_add]; omega
  have e2 : (m + a) * (n - b) = m * n - m * b + a * n - a * b := by rw [Int.add_mul, Int.mul_sub, Int.mul_sub]; omega
  have e3 : (m - a) * (n - b) = m * n - m * b - a * n + a * b := by rw [Int.sub_mul, Int.mul_sub, Int.mul_sub]; omega
  have e4 : (m + a) * (n + b) = m * n + m * b + a * n + a * b := by rw [Int.add_mul, Int.mul_add, Int.mul_add]; omega
  omega

/-- The less and the greater of two numbers. -/
def lo2 (a b : Int) : Int := if b < a then b else a
def hi2 (a b : Int) : Int := if a < b then b else a
theorem lo2_le {a b : Int} (h : ¬ b < a) : lo2 a b = a := by unfold lo2; rw [if_neg h]
theorem lo2_gt {a b : Int} (h : b < a) : lo2 a b = b := by unfold lo2; rw [if_pos h]
theorem hi2_ge {a b : Int} (h : ¬ a < b) : hi2 a b = a := by unfold hi2; rw [if_neg h]
theorem hi2_lt {a b : Int} (h : a < b) : hi2 a b = b := by unfold hi2; rw [if_pos h]

set_option maxHeartbeats 400000 in
theorem l1Least_any (a b : Int) (w : World) :
    Calls Try.prog 55 #[.int .i64 a, .int .i64 b] w fun e w' => e = .returned (.int .i64 (lo2 a b)) ∧ w = w' := by
  have hd : a < b ∧ lo2 a b = a ∨ ¬ a < b ∧ lo2 a b = b := by unfold lo2; by_cases h : a < b <;> by_cases h2 : b < a <;> simp [h, h2] <;> omega
  rcases hd with ⟨h, hd⟩ | ⟨h, hd⟩
  all_goals have HD := Lib.hid hd; clear hd
  all_goals
    go_enter Try.func55, Try.ntmps55
    go_wp2
    go_ret
    exact ⟨by rw [HD.out]; rfl, rfl⟩

set_option maxHeartbeats 400000 in
theorem l1Most_any (a b : Int) (w : World) :
    Calls Try.prog 56 #[.int .i64 a, .int .i64 b] w fun e w' => e = .returned (.int .i64 (hi2 a b)) ∧ w = w' := by
  have hd : b < a ∧ hi2 a b = a ∨ ¬ b < a ∧ hi2 a b = b := by unfold hi2; by_cases h : a < b <;> by_cases h2 : b < a <;> simp [h, h2] <;> omega
  rcases hd with ⟨h, hd⟩ | ⟨h, hd⟩
  all_goals have HD := Lib.hid hd; clear hd
  all_goals
    go_enter Try.func56, Try.ntmps56
    go_wp2
    go_ret
    exact ⟨by rw [HD.out]; rfl, rfl⟩

/-- On one line, and between the ends? -/
def betw (x1 y1 x2 y2 x3 y3 : Int) : Bool := decide ((x2 - x1) * (y3 - y1) = (y2 - y1) * (x3 - x1)) && inB (lo2 x1 x2) x3 (hi2 x1 x2) && inB (lo2 y1 y2) y3 (hi2 y1 y2)

set_option maxHeartbeats 400000 in
theorem specBetween_no (x1 y1 x2 y2 x3 y3 : Int) (hv : (onField x1 y1 && onField x2 y2 && onField x3 y3) = false) (w : World) :
    Calls Try.prog 38 #[.agg #[.int .i64 x1, .int .i64 y1], .agg #[.int .i64 x2, .int .i64 y2], .agg #[.int .i64 x3, .int .i64 y3]] w fun e w' => e = .returned (.tuple #[.bool false, .bool false]) ∧ Below w.heap.size w w' := by
  cases h1 : onField x1 y1 <;> cases h2 : onField x2 y2 <;> cases h3 : onField x3 y3
  case' true.true.true => rw [h1, h2, h3] at hv; cases hv
  all_goals
    go_enter Try.func38, Try.ntmps38
    go_wp2_with (first | (go_at_call 44; (refine (stTwo_any _ _ _ _ _).mono ?_; rintro e w1 ⟨rfl, hb1⟩; have hs1 := hb1.size; (try simp at hs1); obtain ⟨hc1, hf1, hl1⟩ := bcellN (w.heap.size + 3) hb1 (by first | omega | (simp; done) | (simp; omega)))) | (go_at_call 42; (refine (stGood_any _ _ _).mono ?_; rintro e w1 ⟨rfl, hb1⟩; have hs1 := hb1.size; (try simp at hs1); obtain ⟨hc1, hf1, hl1⟩ := bcellN (w.heap.size + 3) hb1 (by first | omega | (simp; done) | (simp; omega)))))
    go_ret2
    exact ⟨rfl, (by repeat (first | exact Below.refl _ _ | assumption | refine Below.drew ?_ | refine below_drewN ?_ _ | refine Below.alloc ?_ (by first | omega | (simp; done) | (simp; omega)) _ | refine Below.setCell ?_ (by first | omega | (simp; done) | (simp; omega)) _ | refine Below.trans ?_ (Below.mono (by assumption) (by first | omega | (simp; done) | (simp; omega)))))⟩

set_option maxHeartbeats 400000 in
theorem between_no (x1 y1 x2 y2 x3 y3 : Int) (hv : (onField x1 y1 && onField x2 y2 && onField x3 y3) = false) (w : World) :
    Calls Try.prog 39 #[.agg #[.int .i64 x1, .int .i64 y1], .agg #[.int .i64 x2, .int .i64 y2], .agg #[.int .i64 x3, .int .i64 y3]] w fun e w' => e = .returned (.tuple #[.bool false, .bool false]) ∧ Below w.heap.size w w' := by
  cases h1 : onField x1 y1 <;> cases h2 : onField x2 y2 <;> cases h3 : onField x3 y3
  case' true.true.true => rw [h1, h2, h3] at hv; cases hv
  all_goals
    go_enter Try.func39, Try.ntmps39
    go_wp2_with (first | (go_at_call 15; (refine (isSpot_any _ _ _).mono ?_; rintro e w1 ⟨rfl, hb1⟩; have hs1 := hb1.size; (try simp at hs1); obtain ⟨hc1, hf1, hl1⟩ := bcellN (w.heap.size + 3) hb1 (by first | omega | (simp; done) | (simp; omega)))))
    go_ret2
    exact ⟨rfl, (by repeat (first | exact Below.refl _ _ | assumption | refine Below.drew ?_ | refine below_drewN ?_ _ | refine Below.alloc ?_ (by first | omega | (simp; done) | (simp; omega)) _ | refine Below.setCell ?_ (by first | omega | (simp; done) | (simp; omega)) _ | refine Below.trans ?_ (Below.mono (by assumption) (by first | omega | (simp; done) | (simp; omega)))))⟩

set_option maxHeartbeats 1000000 in
theorem specBetween_yes (x1 y1 x2 y2 x3 y3 : Int) (h1 : onField x1 y1 = true) (h2 : onField x2 y2 = true) (h3 : onField x3 y3 = true) (w : World) :
    Calls Try.prog 38 #[.agg #[.int .i64 x1, .int .i64 y1], .agg #[.int .i64 x2, .int .i64 y2], .agg #[.int .i64 x3, .int .i64 y3]] w fun e w' => e = .returned (.tuple #[.bool (betw x1 y1 x2 y2 x3 y3), .bool true]) ∧ Below w.heap.size w w' := by
  obtain ⟨⟨a1, a2⟩, a3, a4⟩ := onField_iff.1 h1
  obtain ⟨⟨b1, b2⟩, b3, b4⟩ := onField_iff.1 h2
  obtain ⟨⟨c1, c2⟩, c3, c4⟩ := onField_iff.1 h3
  obtain ⟨d1, d2⟩ := prod_bound (a := x2 - x1) (b := y3 - y1) (m := 1280) (n := 672) (by omega) (by omega) (by omega) (by omega) (by omega)
  obtain ⟨d3, d4⟩ := prod_bound (a := y2 - y1) (b := x3 - x1) (m := 672) (n := 1280) (by omega) (by omega) (by omega) (by omega) (by omega)
  have hbd : betw x1 y1 x2 y2 x3 y3 = (decide ((x2 - x1) * (y3 - y1) = (y2 - y1) * (x3 - x1)) && inB (lo2 x1 x2) x3 (hi2 x1 x2) && inB (lo2 y1 y2) y3 (hi2 y1 y2)) := rfl
  have Hbd := Lib.hid hbd
  clear hbd
  cases k1 : inB (lo2 x1 x2) x3 (hi2 x1 x2) <;> cases k2 : inB (lo2 y1 y2) y3 (hi2 y1 y2) <;> by_cases k0 : (x2 - x1) * (y3 - y1) - (y2 - y1) * (x3 - x1) = 0
  all_goals
    have k0' := k0
    first | (have kb : ((x2 - x1) * (y3 - y1) - (y2 - y1) * (x3 - x1) == 0) = true := beq_iff_eq.2 k0') | (have kb : ((x2 - x1) * (y3 - y1) - (y2 - y1) * (x3 - x1) == 0) = false := beq_eq_false_iff_ne.2 k0')
    have hfin : betw x1 y1 x2 y2 x3 y3 = (((x2 - x1) * (y3 - y1) - (y2 - y1) * (x3 - x1) == 0) && inB (lo2 x1 x2) x3 (hi2 x1 x2) && inB (lo2 y1 y2) y3 (hi2 y1 y2)) := by
      rw [Hbd.out, kb]
      first | (rw [decide_eq_true (show (x2 - x1) * (y3 - y1) = (y2 - y1) * (x3 - x1) by omega)]) | (rw [decide_eq_false (show ¬ (x2 - x1) * (y3 - y1) = (y2 - y1) * (x3 - x1) by omega)])
    rw [kb, k1, k2] at hfin
    have Hfin := Lib.hid hfin
    clear hfin Hbd k0 k0'
  all_goals
    go_enter Try.func38, Try.ntmps38
    go_wp2_with (first | (go_at_call 44; (refine (stTwo_any _ _ _ _ _).mono ?_; rintro e w1 ⟨rfl, hb1⟩; have hs1 := hb1.size; (try simp at hs1); obtain ⟨hc1, hf1, hl1⟩ := bcellN (w.heap.size + 3) hb1 (by first | omega | (simp; done) | (simp; omega)))) | (go_at_call 42; (refine (stGood_any _ _ _).mono ?_; rintro e w1 ⟨rfl, hb1⟩; have hs1 := hb1.size; (try simp at hs1); obtain ⟨hc1, hf1, hl1⟩ := bcellN (w.heap.size + 3) hb1 (by first | omega | (simp; done) | (simp; omega)))))
    go_quiet ((first | (go_at_call 55; exact Calls.quiet_of_same ((l1Least_any _ _ _).mono (fun _ _ h => ⟨h.1, h.2.symm⟩))) | (go_at_call 56; exact Calls.quiet_of_same ((l1Most_any _ _ _).mono (fun _ _ h => ⟨h.1, h.2.symm⟩))) | (go_at_call 47; exact Calls.quiet_of_same ((l1In_any _ _ _ _).mono (fun _ _ h => ⟨h.1, h.2.symm⟩)))))
    go_wp2
    go_ret2
    exact ⟨by rw [Hfin.out]; rfl, (by repeat (first | exact Below.refl _ _ | assumption | refine Below.drew ?_ | refine below_drewN ?_ _ | refine Below.alloc ?_ (by first | omega | (simp; done) | (simp; omega)) _ | refine Below.setCell ?_ (by first | omega | (simp; done) | (simp; omega)) _ | refine Below.trans ?_ (Below.mono (by assumption) (by first | omega | (simp; done) | (simp; omega)))))⟩

set_option maxHeartbeats 1000000 in
theorem between_yes (x1 y1 x2 y2 x3 y3 : Int) (h1 : onField x1 y1 = true) (h2 : onField x2 y2 = true) (h3 : onField x3 y3 = true) (w : World) :
    Calls Try.prog 39 #[.agg #[.int .i64 x1, .int .i64 y1], .agg #[.int .i64 x2, .int .i64 y2], .agg #[.int .i64 x3, .int .i64 y3]] w fun e w' => e = .returned (.tuple #[.bool (betw x1 y1 x2 y2 x3 y3), .bool true]) ∧ Below w.heap.size w w' := by
  obtain ⟨⟨a1, a2⟩, a3, a4⟩ := onField_iff.1 h1
  obtain ⟨⟨b1, b2⟩, b3, b4⟩ := onField_iff.1 h2
  obtain ⟨⟨c1, c2⟩, c3, c4⟩ := onField_iff.1 h3
  obtain ⟨d1, d2⟩ := prod_bound (a := x2 - x1) (b := y3 - y1) (m := 1280) (n := 672) (by omega) (by omega) (by omega) (by omega) (by omega)
  obtain ⟨d3, d4⟩ := prod_bound (a := y2 - y1) (b := x3 - x1) (m := 672) (n := 1280) (by omega) (by omega) (by omega) (by omega) (by omega)
  have hbd : betw x1 y1 x2 y2 x3 y3 = (decide ((x2 - x1) * (y3 - y1) = (y2 - y1) * (x3 - x1)) && inB (lo2 x1 x2) x3 (hi2 x1 x2) && inB (lo2 y1 y2) y3 (hi2 y1 y2)) := rfl
  have Hbd := Lib.hid hbd
  clear hbd
  have e1 : ∀ a b : Int, (if b < a then b else a) = lo2 a b := fun _ _ => rfl
  have e2 : ∀ a b : Int, (if a < b then b else a) = hi2 a b := fun _ _ => rfl
  all_goals
    go_enter Try.func39, Try.ntmps39
    go_wp2_with (first | (go_at_call 15; (refine (isSpot_any _ _ _).mono ?_; rintro e w1 ⟨rfl, hb1⟩; have hs1 := hb1.size; (try simp at hs1); obtain ⟨hc1, hf1, hl1⟩ := bcellN (w.heap.size + 3) hb1 (by first | omega | (simp; done) | (simp; omega)))) | (go_at_call 43; (refine (inRange_any _ _ _ _).mono ?_; rintro e w' ⟨rfl, rfl⟩)))
    all_goals go_ret2
    all_goals exact ⟨by rw [Hbd.out]; simp [*], (by repeat (first | exact Below.refl _ _ | assumption | refine Below.drew ?_ | refine below_drewN ?_ _ | refine Below.alloc ?_ (by first | omega | (simp; done) | (simp; omega)) _ | refine Below.setCell ?_ (by first | omega | (simp; done) | (simp; omega)) _ | refine Below.trans ?_ (Below.mono (by assumption) (by first | omega | (simp; done) | (simp; omega)))))⟩

/-- BetweenSpots' first answer. -/
def between (x1 y1 x2 y2 x3 y3 : Int) : Bool := (onField x1 y1 && onField x2 y2 && onField x3 y3) && betw x1 y1 x2 y2 x3 y3

theorem specBetween_any (x1 y1 x2 y2 x3 y3 : Int) (w : World) :
    Calls Try.prog 38 #[.agg #[.int .i64 x1, .int .i64 y1], .agg #[.int .i64 x2, .int .i64 y2], .agg #[.int .i64 x3, .int .i64 y3]] w fun e w' => e = .returned (.tuple #[.bool (between x1 y1 x2 y2 x3 y3), .bool (onField x1 y1 && onField x2 y2 && onField x3 y3)]) ∧ Below w.heap.size w w' := by
  cases hv : (onField x1 y1 && onField x2 y2 && onField x3 y3)
  · have e0 : between x1 y1 x2 y2 x3 y3 = false := by unfold between; rw [hv]; rfl
    rw [e0]
    exact specBetween_no x1 y1 x2 y2 x3 y3 hv w
  · have e0 : between x1 y1 x2 y2 x3 y3 = betw x1 y1 x2 y2 x3 y3 := by unfold between; rw [hv]; rfl
    rw [e0]
    simp only [Bool.and_eq_true] at hv
    exact specBetween_yes x1 y1 x2 y2 x3 y3 hv.1.1 hv.1.2 hv.2 w

theorem between_any (x1 y1 x2 y2 x3 y3 : Int) (w : World) :
    Calls Try.prog 39 #[.agg #[.int .i64 x1, .int .i64 y1], .agg #[.int .i64 x2, .int .i64 y2], .agg #[.int .i64 x3, .int .i64 y3]] w fun e w' => e = .returned (.tuple #[.bool (between x1 y1 x2 y2 x3 y3), .bool (onField x1 y1 && onField x2 y2 && onField x3 y3)]) ∧ Below w.heap.size w w' := by
  cases hv : (onField x1 y1 && onField x2 y2 && onField x3 y3)
  · have e0 : between x1 y1 x2 y2 x3 y3 = false := by unfold between; rw [hv]; rfl
    rw [e0]
    exact between_no x1 y1 x2 y2 x3 y3 hv w
  · have e0 : between x1 y1 x2 y2 x3 y3 = betw x1 y1 x2 y2 x3 y3 := by unfold between; rw [hv]; rfl
    rw [e0]
    simp only [Bool.and_eq_true] at hv
    exact between_yes x1 y1 x2 y2 x3 y3 hv.1.1 hv.1.2 hv.2 w

end Go.Proofs.Ythmgbfnjkiehcaa
