/- Functions of one, two and three spots: what each call does, one contract a function. No conditions but those written in each theorem. -/
import Derived.Test.YthmgbfnjkiehcaaSpot
import Derived.Deep.RegionWith
import Derived.StillTailTactics
namespace Go.Proofs.Ythmgbfnjkiehcaa
open Go.RowKit


/-- The square of two spots. -/
def sqr (x1 y1 x2 y2 : Int) : Int := (x1 - x2) * (x1 - x2) + (y1 - y2) * (y1 - y2)
theorem sq_bound {a m : Int} (h0 : -m ≤ a) (h1 : a ≤ m) : 0 ≤ a * a ∧ a * a ≤ m * m := by
  have h2 : 0 ≤ (m - a) * (m + a) := Int.mul_nonneg (by omega) (by omega)
  have h3 : (m - a) * (m + a) = m * m - a * a := by rw [Int.sub_mul, Int.mul_add, Int.mul_add, Int.mul_comm a m]; omega
  refine ⟨?_, by omega⟩
  by_cases h : 0 ≤ a
  · exact Int.mul_nonneg h h
  · exact Int.mul_nonneg_of_nonpos_of_nonpos (by omega) (by omega)

set_option maxHeartbeats 400000 in
theorem stSquare_any (x1 y1 x2 y2 : Int) (h1 : onField x1 y1 = true) (h2 : onField x2 y2 = true) (w : World) :
    Calls Try.prog 45 #[.agg #[.int .i64 x1, .int .i64 y1], .agg #[.int .i64 x2, .int .i64 y2]] w fun e w' => e = .returned (.int .i64 (sqr x1 y1 x2 y2)) ∧ Below w.heap.size w w' := by
  obtain ⟨⟨a1, a2⟩, a3, a4⟩ := onField_iff.1 h1
  obtain ⟨⟨b1, b2⟩, b3, b4⟩ := onField_iff.1 h2
  obtain ⟨c1, c2⟩ := sq_bound (a := x1 - x2) (m := 1280) (by omega) (by omega)
  obtain ⟨d1, d2⟩ := sq_bound (a := y1 - y2) (m := 672) (by omega) (by omega)
  clear h1 h2
  all_goals
    go_enter Try.func45, Try.ntmps45
    go_wp2
    go_ret
    exact ⟨rfl, (by repeat (first | exact Below.refl _ _ | assumption | refine Below.drew ?_ | refine below_drewN ?_ _ | refine Below.alloc ?_ (by first | omega | (simp; done) | (simp; omega)) _ | refine Below.setCell ?_ (by first | omega | (simp; done) | (simp; omega)) _ | refine Below.trans ?_ (Below.mono (by assumption) (by first | omega | (simp; done) | (simp; omega)))))⟩

set_option maxHeartbeats 400000 in
theorem squareBetween_any (x1 y1 x2 y2 : Int) (h1 : onField x1 y1 = true) (h2 : onField x2 y2 = true) (w : World) :
    Calls Try.prog 46 #[.agg #[.int .i64 x1, .int .i64 y1], .agg #[.int .i64 x2, .int .i64 y2]] w fun e w' => e = .returned (.int .i64 (sqr x1 y1 x2 y2)) ∧ Below w.heap.size w w' := by
  obtain ⟨⟨a1, a2⟩, a3, a4⟩ := onField_iff.1 h1
  obtain ⟨⟨b1, b2⟩, b3, b4⟩ := onField_iff.1 h2
  obtain ⟨c1, c2⟩ := sq_bound (a := x1 - x2) (m := 1280) (by omega) (by omega)
  obtain ⟨d1, d2⟩ := sq_bound (a := y1 - y2) (m := 672) (by omega) (by omega)
  clear h1 h2
  all_goals
    go_enter Try.func46, Try.ntmps46
    go_wp2
    go_quiet (fail)
    go_wp2
    go_ret
    exact ⟨rfl, (by repeat (first | exact Below.refl _ _ | assumption | refine Below.drew ?_ | refine below_drewN ?_ _ | refine Below.alloc ?_ (by first | omega | (simp; done) | (simp; omega)) _ | refine Below.setCell ?_ (by first | omega | (simp; done) | (simp; omega)) _ | refine Below.trans ?_ (Below.mono (by assumption) (by first | omega | (simp; done) | (simp; omega)))))⟩

set_option maxHeartbeats 400000 in
theorem specSquareOf_any (x1 y1 x2 y2 : Int) (w : World) :
    Calls Try.prog 16 #[.agg #[.int .i64 x1, .int .i64 y1], .agg #[.int .i64 x2, .int .i64 y2]] w fun e w' => e = .returned (.tuple #[.int .i64 (guardI (onField x1 y1 && onField x2 y2) (sqr x1 y1 x2 y2)), .bool (onField x1 y1 && onField x2 y2)]) ∧ Below w.heap.size w w' := by
  have hsq : ∀ W : World, onField x1 y1 = true → onField x2 y2 = true → Calls Try.prog 45 #[.agg #[.int .i64 x1, .int .i64 y1], .agg #[.int .i64 x2, .int .i64 y2]] W fun e w' => e = .returned (.int .i64 (sqr x1 y1 x2 y2)) ∧ Below W.heap.size W w' := fun W h1 h2 => stSquare_any x1 y1 x2 y2 h1 h2 W
  have Hsq := Lib.hid hsq
  clear hsq
  cases h1 : onField x1 y1 <;> cases h2 : onField x2 y2
  all_goals
    go_enter Try.func16, Try.ntmps16
    go_wp2_with (first | (go_at_call 44; go_must (refine (stTwo_any _ _ _ _ _).mono ?_; rintro e w1 ⟨rfl, hb1⟩; have hs1 := hb1.size; (try simp at hs1); obtain ⟨hc1, hf1, hl1⟩ := bcellN (w.heap.size + 2) hb1 (by first | omega | (simp; done) | (simp; omega)))) | (go_at_call 45; go_must (refine (Hsq.out _ h1 h2).mono ?_; rintro e w1 ⟨rfl, hb1⟩; have hs1 := hb1.size; (try simp at hs1); obtain ⟨hc1, hf1, hl1⟩ := bcellN (w.heap.size + 2) hb1 (by first | omega | (simp; done) | (simp; omega)))))
    go_ret2
    exact ⟨rfl, (by repeat (first | exact Below.refl _ _ | assumption | refine Below.drew ?_ | refine below_drewN ?_ _ | refine Below.alloc ?_ (by first | omega | (simp; done) | (simp; omega)) _ | refine Below.setCell ?_ (by first | omega | (simp; done) | (simp; omega)) _ | refine Below.trans ?_ (Below.mono (by assumption) (by first | omega | (simp; done) | (simp; omega)))))⟩

set_option maxHeartbeats 400000 in
theorem squareOf_any (x1 y1 x2 y2 : Int) (w : World) :
    Calls Try.prog 17 #[.agg #[.int .i64 x1, .int .i64 y1], .agg #[.int .i64 x2, .int .i64 y2]] w fun e w' => e = .returned (.tuple #[.int .i64 (guardI (onField x1 y1 && onField x2 y2) (sqr x1 y1 x2 y2)), .bool (onField x1 y1 && onField x2 y2)]) ∧ Below w.heap.size w w' := by
  have hsq : ∀ W : World, onField x1 y1 = true → onField x2 y2 = true → Calls Try.prog 46 #[.agg #[.int .i64 x1, .int .i64 y1], .agg #[.int .i64 x2, .int .i64 y2]] W fun e w' => e = .returned (.int .i64 (sqr x1 y1 x2 y2)) ∧ Below W.heap.size W w' := fun W h1 h2 => squareBetween_any x1 y1 x2 y2 h1 h2 W
  have Hsq := Lib.hid hsq
  clear hsq
  cases h1 : onField x1 y1 <;> cases h2 : onField x2 y2
  all_goals
    go_enter Try.func17, Try.ntmps17
    go_wp2_with (first | (go_at_call 15; go_must (refine (isSpot_any _ _ _).mono ?_; rintro e w1 ⟨rfl, hb1⟩; have hs1 := hb1.size; (try simp at hs1); obtain ⟨hc1, hf1, hl1⟩ := bcellN (w.heap.size + 2) hb1 (by first | omega | (simp; done) | (simp; omega)))) | (go_at_call 46; go_must (refine (Hsq.out _ h1 h2).mono ?_; rintro e w1 ⟨rfl, hb1⟩; have hs1 := hb1.size; (try simp at hs1); obtain ⟨hc1, hf1, hl1⟩ := bcellN (w.heap.size + 2) hb1 (by first | omega | (simp; done) | (simp; omega)))))
    go_ret2
    exact ⟨rfl, (by repeat (first | exact Below.refl _ _ | assumption | refine Below.drew ?_ | refine below_drewN ?_ _ | refine Below.alloc ?_ (by first | omega | (simp; done) | (simp; omega)) _ | refine Below.setCell ?_ (by first | omega | (simp; done) | (simp; omega)) _ | refine Below.trans ?_ (Below.mono (by assumption) (by first | omega | (simp; done) | (simp; omega)))))⟩

set_option maxHeartbeats 400000 in
theorem stMirror_any (x y : Int) (a1 : 0 ≤ x) (a2 : x ≤ 1280) (w : World) :
    Calls Try.prog 49 #[.agg #[.int .i64 x, .int .i64 y]] w fun e w' => e = .returned (.agg #[.int .i64 (1280 - x), .int .i64 y]) ∧ Below w.heap.size w w' := by
  skip
  all_goals
    go_enter Try.func49, Try.ntmps49
    go_wp2
    exact bodyPost_ret (v := .agg #[.int .i64 (1280 - x), .int .i64 y]) (by simp [results, Try.results49, go_sem, *]) rfl ⟨rfl, (by repeat (first | exact Below.refl _ _ | assumption | refine Below.drew ?_ | refine below_drewN ?_ _ | refine Below.alloc ?_ (by first | omega | (simp; done) | (simp; omega)) _ | refine Below.setCell ?_ (by first | omega | (simp; done) | (simp; omega)) _ | refine Below.trans ?_ (Below.mono (by assumption) (by first | omega | (simp; done) | (simp; omega)))))⟩

set_option maxHeartbeats 400000 in
theorem specMirrorSpot_any (x y : Int) (w : World) :
    Calls Try.prog 21 #[.agg #[.int .i64 x, .int .i64 y]] w fun e w' => e = .returned (.tuple #[.agg #[.int .i64 (guardI (onField x y) (1280 - x)), .int .i64 (guardI (onField x y) (y))], .bool (onField x y)]) ∧ Below w.heap.size w w' := by
  cases h1 : onField x y
  case' true => obtain ⟨⟨a1, a2⟩, a3, a4⟩ := onField_iff.1 h1
  all_goals
    go_enter Try.func21, Try.ntmps21
    go_wp2_with (first | (go_at_call 42; go_must (refine (stGood_any _ _ _).mono ?_; rintro e w1 ⟨rfl, hb1⟩; have hs1 := hb1.size; (try simp at hs1); obtain ⟨hc1, hf1, hl1⟩ := bcellN (w.heap.size + 2) hb1 (by first | omega | (simp; done) | (simp; omega)))) | (go_at_call 49; go_must (refine (stMirror_any _ _ (by assumption) (by assumption) _).mono ?_; rintro e w1 ⟨rfl, hb1⟩; have hs1 := hb1.size; (try simp at hs1); obtain ⟨hc1, hf1, hl1⟩ := bcellN (w.heap.size + 2) hb1 (by first | omega | (simp; done) | (simp; omega)))))
    first | exact bodyPost_ret (v := .tuple #[.agg #[.int .i64 0, .int .i64 0], .bool false]) (by simp [results, Try.results21, go_sem, *]) rfl ⟨rfl, (by repeat (first | exact Below.refl _ _ | assumption | refine Below.drew ?_ | refine below_drewN ?_ _ | refine Below.alloc ?_ (by first | omega | (simp; done) | (simp; omega)) _ | refine Below.setCell ?_ (by first | omega | (simp; done) | (simp; omega)) _ | refine Below.trans ?_ (Below.mono (by assumption) (by first | omega | (simp; done) | (simp; omega)))))⟩ | exact bodyPost_ret (v := .tuple #[.agg #[.int .i64 (1280 - x), .int .i64 y], .bool true]) (by simp [results, Try.results21, go_sem, *]) rfl ⟨rfl, (by repeat (first | exact Below.refl _ _ | assumption | refine Below.drew ?_ | refine below_drewN ?_ _ | refine Below.alloc ?_ (by first | omega | (simp; done) | (simp; omega)) _ | refine Below.setCell ?_ (by first | omega | (simp; done) | (simp; omega)) _ | refine Below.trans ?_ (Below.mono (by assumption) (by first | omega | (simp; done) | (simp; omega)))))⟩

set_option maxHeartbeats 400000 in
theorem mirrorSpot_any (x y : Int) (w : World) :
    Calls Try.prog 22 #[.agg #[.int .i64 x, .int .i64 y]] w fun e w' => e = .returned (.tuple #[.agg #[.int .i64 (guardI (onField x y) (1280 - x)), .int .i64 (guardI (onField x y) (y))], .bool (onField x y)]) ∧ Below w.heap.size w w' := by
  cases h1 : onField x y
  case' true => obtain ⟨⟨a1, a2⟩, a3, a4⟩ := onField_iff.1 h1
  all_goals
    go_enter Try.func22, Try.ntmps22
    go_wp2_with (first | (go_at_call 15; go_must (refine (isSpot_any _ _ _).mono ?_; rintro e w1 ⟨rfl, hb1⟩; have hs1 := hb1.size; (try simp at hs1); obtain ⟨hc1, hf1, hl1⟩ := bcellN (w.heap.size + 2) hb1 (by first | omega | (simp; done) | (simp; omega)))))
    first | exact bodyPost_ret (v := .tuple #[.agg #[.int .i64 0, .int .i64 0], .bool false]) (by simp [results, Try.results22, go_sem, *]) rfl ⟨rfl, (by repeat (first | exact Below.refl _ _ | assumption | refine Below.drew ?_ | refine below_drewN ?_ _ | refine Below.alloc ?_ (by first | omega | (simp; done) | (simp; omega)) _ | refine Below.setCell ?_ (by first | omega | (simp; done) | (simp; omega)) _ | refine Below.trans ?_ (Below.mono (by assumption) (by first | omega | (simp; done) | (simp; omega)))))⟩ | exact bodyPost_ret (v := .tuple #[.agg #[.int .i64 (1280 - x), .int .i64 y], .bool true]) (by simp [results, Try.results22, go_sem, *]) rfl ⟨rfl, (by repeat (first | exact Below.refl _ _ | assumption | refine Below.drew ?_ | refine below_drewN ?_ _ | refine Below.alloc ?_ (by first | omega | (simp; done) | (simp; omega)) _ | refine Below.setCell ?_ (by first | omega | (simp; done) | (simp; omega)) _ | refine Below.trans ?_ (Below.mono (by assumption) (by first | omega | (simp; done) | (simp; omega)))))⟩

set_option maxHeartbeats 400000 in
theorem specMiddleOf_any (x1 y1 x2 y2 : Int) (w : World) :
    Calls Try.prog 23 #[.agg #[.int .i64 x1, .int .i64 y1], .agg #[.int .i64 x2, .int .i64 y2]] w fun e w' => e = .returned (.tuple #[.agg #[.int .i64 (guardI (onField x1 y1 && onField x2 y2) ((x1 + x2) / 2)), .int .i64 (guardI (onField x1 y1 && onField x2 y2) ((y1 + y2) / 2))], .bool (onField x1 y1 && onField x2 y2)]) ∧ Below w.heap.size w w' := by
  cases h1 : onField x1 y1 <;> cases h2 : onField x2 y2
  case' true.true => obtain ⟨⟨a1, a2⟩, a3, a4⟩ := onField_iff.1 h1; obtain ⟨⟨b1, b2⟩, b3, b4⟩ := onField_iff.1 h2
  all_goals
    go_enter Try.func23, Try.ntmps23
    go_wp2_with (first | (go_at_call 44; go_must (refine (stTwo_any _ _ _ _ _).mono ?_; rintro e w1 ⟨rfl, hb1⟩; have hs1 := hb1.size; (try simp at hs1); obtain ⟨hc1, hf1, hl1⟩ := bcellN (w.heap.size + 3) hb1 (by first | omega | (simp; done) | (simp; omega)))))
    first | exact bodyPost_ret (v := .tuple #[.agg #[.int .i64 0, .int .i64 0], .bool false]) (by simp [results, Try.results23, go_sem, *]) rfl ⟨rfl, (by repeat (first | exact Below.refl _ _ | assumption | refine Below.drew ?_ | refine below_drewN ?_ _ | refine Below.alloc ?_ (by first | omega | (simp; done) | (simp; omega)) _ | refine Below.setCell ?_ (by first | omega | (simp; done) | (simp; omega)) _ | refine Below.trans ?_ (Below.mono (by assumption) (by first | omega | (simp; done) | (simp; omega)))))⟩ | exact bodyPost_ret (v := .tuple #[.agg #[.int .i64 ((x1 + x2) / 2), .int .i64 ((y1 + y2) / 2)], .bool true]) (by simp [results, Try.results23, go_sem, *]) rfl ⟨rfl, (by repeat (first | exact Below.refl _ _ | assumption | refine Below.drew ?_ | refine below_drewN ?_ _ | refine Below.alloc ?_ (by first | omega | (simp; done) | (simp; omega)) _ | refine Below.setCell ?_ (by first | omega | (simp; done) | (simp; omega)) _ | refine Below.trans ?_ (Below.mono (by assumption) (by first | omega | (simp; done) | (simp; omega)))))⟩

set_option maxHeartbeats 400000 in
theorem middleOf_any (x1 y1 x2 y2 : Int) (w : World) :
    Calls Try.prog 24 #[.agg #[.int .i64 x1, .int .i64 y1], .agg #[.int .i64 x2, .int .i64 y2]] w fun e w' => e = .returned (.tuple #[.agg #[.int .i64 (guardI (onField x1 y1 && onField x2 y2) ((x1 + x2) / 2)), .int .i64 (guardI (onField x1 y1 && onField x2 y2) ((y1 + y2) / 2))], .bool (onField x1 y1 && onField x2 y2)]) ∧ Below w.heap.size w w' := by
  cases h1 : onField x1 y1 <;> cases h2 : onField x2 y2
  case' true.true => obtain ⟨⟨a1, a2⟩, a3, a4⟩ := onField_iff.1 h1; obtain ⟨⟨b1, b2⟩, b3, b4⟩ := onField_iff.1 h2
  all_goals
    go_enter Try.func24, Try.ntmps24
    go_wp2_with (first | (go_at_call 15; go_must (refine (isSpot_any _ _ _).mono ?_; rintro e w1 ⟨rfl, hb1⟩; have hs1 := hb1.size; (try simp at hs1); obtain ⟨hc1, hf1, hl1⟩ := bcellN (w.heap.size + 3) hb1 (by first | omega | (simp; done) | (simp; omega)))))
    first | exact bodyPost_ret (v := .tuple #[.agg #[.int .i64 0, .int .i64 0], .bool false]) (by simp [results, Try.results24, go_sem, *]) rfl ⟨rfl, (by repeat (first | exact Below.refl _ _ | assumption | refine Below.drew ?_ | refine below_drewN ?_ _ | refine Below.alloc ?_ (by first | omega | (simp; done) | (simp; omega)) _ | refine Below.setCell ?_ (by first | omega | (simp; done) | (simp; omega)) _ | refine Below.trans ?_ (Below.mono (by assumption) (by first | omega | (simp; done) | (simp; omega)))))⟩ | exact bodyPost_ret (v := .tuple #[.agg #[.int .i64 ((x1 + x2) / 2), .int .i64 ((y1 + y2) / 2)], .bool true]) (by simp [results, Try.results24, go_sem, *]) rfl ⟨rfl, (by repeat (first | exact Below.refl _ _ | assumption | refine Below.drew ?_ | refine below_drewN ?_ _ | refine Below.alloc ?_ (by first | omega | (simp; done) | (simp; omega)) _ | refine Below.setCell ?_ (by first | omega | (simp; done) | (simp; omega)) _ | refine Below.trans ?_ (Below.mono (by assumption) (by first | omega | (simp; done) | (simp; omega)))))⟩

set_option maxHeartbeats 400000 in
theorem specNearestStep_any (x y : Int) (w : World) :
    Calls Try.prog 25 #[.agg #[.int .i64 x, .int .i64 y]] w fun e w' => e = .returned (.tuple #[.agg #[.int .i64 (guardI (onField x y) ((x + 4) / 8 * 8)), .int .i64 (guardI (onField x y) ((y + 4) / 8 * 8))], .bool (onField x y)]) ∧ Below w.heap.size w w' := by
  cases h1 : onField x y
  case' true => obtain ⟨⟨a1, a2⟩, a3, a4⟩ := onField_iff.1 h1
  all_goals
    go_enter Try.func25, Try.ntmps25
    go_wp2_with (first | (go_at_call 42; go_must (refine (stGood_any _ _ _).mono ?_; rintro e w1 ⟨rfl, hb1⟩; have hs1 := hb1.size; (try simp at hs1); obtain ⟨hc1, hf1, hl1⟩ := bcellN (w.heap.size + 2) hb1 (by first | omega | (simp; done) | (simp; omega)))))
    first | exact bodyPost_ret (v := .tuple #[.agg #[.int .i64 0, .int .i64 0], .bool false]) (by simp [results, Try.results25, go_sem, *]) rfl ⟨rfl, (by repeat (first | exact Below.refl _ _ | assumption | refine Below.drew ?_ | refine below_drewN ?_ _ | refine Below.alloc ?_ (by first | omega | (simp; done) | (simp; omega)) _ | refine Below.setCell ?_ (by first | omega | (simp; done) | (simp; omega)) _ | refine Below.trans ?_ (Below.mono (by assumption) (by first | omega | (simp; done) | (simp; omega)))))⟩ | exact bodyPost_ret (v := .tuple #[.agg #[.int .i64 ((x + 4) / 8 * 8), .int .i64 ((y + 4) / 8 * 8)], .bool true]) (by simp [results, Try.results25, go_sem, *]) rfl ⟨rfl, (by repeat (first | exact Below.refl _ _ | assumption | refine Below.drew ?_ | refine below_drewN ?_ _ | refine Below.alloc ?_ (by first | omega | (simp; done) | (simp; omega)) _ | refine Below.setCell ?_ (by first | omega | (simp; done) | (simp; omega)) _ | refine Below.trans ?_ (Below.mono (by assumption) (by first | omega | (simp; done) | (simp; omega)))))⟩

set_option maxHeartbeats 400000 in
theorem wholeStep_any (n : Int) (h0 : 0 ≤ n) (h1 : n ≤ 1280) (w : World) :
    Calls Try.prog 50 #[.int .i64 n] w fun e w' => e = .returned (.int .i64 ((n + 4) / 8 * 8)) ∧ w = w' := by
  skip
  all_goals
    go_enter Try.func50, Try.ntmps50
    go_wp2
    go_ret
    exact ⟨rfl, rfl⟩

set_option maxHeartbeats 400000 in
theorem nearestStep_any (x y : Int) (w : World) :
    Calls Try.prog 26 #[.agg #[.int .i64 x, .int .i64 y]] w fun e w' => e = .returned (.tuple #[.agg #[.int .i64 (guardI (onField x y) ((x + 4) / 8 * 8)), .int .i64 (guardI (onField x y) ((y + 4) / 8 * 8))], .bool (onField x y)]) ∧ Below w.heap.size w w' := by
  cases h1 : onField x y
  case' true => obtain ⟨⟨a1, a2⟩, a3, a4⟩ := onField_iff.1 h1
  all_goals
    go_enter Try.func26, Try.ntmps26
    go_wp2_with (first | (go_at_call 15; go_must (refine (isSpot_any _ _ _).mono ?_; rintro e w1 ⟨rfl, hb1⟩; have hs1 := hb1.size; (try simp at hs1); obtain ⟨hc1, hf1, hl1⟩ := bcellN (w.heap.size + 2) hb1 (by first | omega | (simp; done) | (simp; omega)))))
    all_goals try (go_region_with (go_at_call 50; refine (wholeStep_any _ (by omega) (by omega) _).mono ?_; rintro e w' ⟨rfl, rfl⟩))
    all_goals try go_wp2
    all_goals (first | exact bodyPost_ret (v := .tuple #[.agg #[.int .i64 0, .int .i64 0], .bool false]) (by simp [results, Try.results26, go_sem, *]) rfl ⟨rfl, (by repeat (first | exact Below.refl _ _ | assumption | refine Below.drew ?_ | refine below_drewN ?_ _ | refine Below.alloc ?_ (by first | omega | (simp; done) | (simp; omega)) _ | refine Below.setCell ?_ (by first | omega | (simp; done) | (simp; omega)) _ | refine Below.trans ?_ (Below.mono (by assumption) (by first | omega | (simp; done) | (simp; omega)))))⟩ | exact bodyPost_ret (v := .tuple #[.agg #[.int .i64 ((x + 4) / 8 * 8), .int .i64 ((y + 4) / 8 * 8)], .bool true]) (by simp [results, Try.results26, go_sem, *]) rfl ⟨rfl, (by repeat (first | exact Below.refl _ _ | assumption | refine Below.drew ?_ | refine below_drewN ?_ _ | refine Below.alloc ?_ (by first | omega | (simp; done) | (simp; omega)) _ | refine Below.setCell ?_ (by first | omega | (simp; done) | (simp; omega)) _ | refine Below.trans ?_ (Below.mono (by assumption) (by first | omega | (simp; done) | (simp; omega)))))⟩)

end Go.Proofs.Ythmgbfnjkiehcaa
