/- Roots, chords, radii, places on arcs, quarter turns, both sides. Conditions: those written in each theorem. -/
import Derived.Test.YtjdpbjpeohdoiaaArRoot
import Derived.Test.YtjdpbjpeohdoiaaSt
import Derived.Deep.RegionHeld3
import Derived.Deep.DrawnRows
import Derived.IntWalk
import Derived.StillTailTactics
namespace Go.Proofs.Ytjdpbjpeohdoiaa
open Go.RowKit


attribute [local go_sem ↓] Go.wp_at_zero Go.wp_at_succ

set_option maxHeartbeats 400000 in
theorem isRadius_any (r : Int) (w : World) :
    Calls Try.prog 58 #[.int .i64 r] w fun e w' => e = .returned (.bool (inB 1 r 1400)) ∧ w = w' := by
  skip
  all_goals
    go_enter Try.func58, Try.ntmps58
    go_wp2_with (first | (go_at_call 42; (refine (inRange_any _ _ _ _).mono ?_; rintro e w' ⟨rfl, rfl⟩)))
    go_ret
    exact ⟨rfl, rfl⟩

set_option maxHeartbeats 400000 in
theorem specRootOf_any (n : Int) (w : World) :
    Calls Try.prog 13 #[.int .i64 n] w fun e w' => e = .returned (.tuple #[.int .i64 (guardI (inB 0 n 10000000) (rt n)), .bool (inB 0 n 10000000)]) ∧ Below w.heap.size w w' := by
  cases h1 : inB 0 n 10000000
  case' true => obtain ⟨a1, a2⟩ := inB_iff.1 h1
  all_goals
    go_enter Try.func13, Try.ntmps13
    go_wp2_with (first | (go_at_call 40; (refine (l1In_any _ _ _ _).mono ?_; rintro e w' ⟨rfl, rfl⟩)) | (go_at_call 41; (refine (arRoot_any _ (by omega) (by omega) _).mono ?_; rintro e w' ⟨rfl, rfl⟩)))
    first | exact bodyPost_ret (v := .tuple #[.int .i64 0, .bool false]) (by simp [results, Try.results13, go_sem, *]) rfl ⟨rfl, (by repeat (first | exact Below.refl _ _ | assumption | refine Below.drew ?_ | refine below_drewN ?_ _ | refine Below.alloc ?_ (by first | omega | (simp; done) | (simp; omega)) _ | refine Below.setCell ?_ (by first | omega | (simp; done) | (simp; omega)) _ | refine Below.trans ?_ (Below.mono (by assumption) (by first | omega | (simp; done) | (simp; omega)))))⟩ | exact bodyPost_ret (v := .tuple #[.int .i64 (rt n), .bool true]) (by simp [results, Try.results13, go_sem, *]) rfl ⟨rfl, (by repeat (first | exact Below.refl _ _ | assumption | refine Below.drew ?_ | refine below_drewN ?_ _ | refine Below.alloc ?_ (by first | omega | (simp; done) | (simp; omega)) _ | refine Below.setCell ?_ (by first | omega | (simp; done) | (simp; omega)) _ | refine Below.trans ?_ (Below.mono (by assumption) (by first | omega | (simp; done) | (simp; omega)))))⟩

set_option maxHeartbeats 400000 in
theorem rootOf_any (n : Int) (w : World) :
    Calls Try.prog 14 #[.int .i64 n] w fun e w' => e = .returned (.tuple #[.int .i64 (guardI (inB 0 n 10000000) (rt n)), .bool (inB 0 n 10000000)]) ∧ Below w.heap.size w w' := by
  cases h1 : inB 0 n 10000000
  case' true => obtain ⟨a1, a2⟩ := inB_iff.1 h1
  all_goals
    go_enter Try.func14, Try.ntmps14
    go_wp2_with (first | (go_at_call 42; (refine (inRange_any _ _ _ _).mono ?_; rintro e w' ⟨rfl, rfl⟩)) | (go_at_call 43; (refine (wholeRoot_any _ (by omega) (by omega) _).mono ?_; rintro e w' ⟨rfl, rfl⟩)))
    first | exact bodyPost_ret (v := .tuple #[.int .i64 0, .bool false]) (by simp [results, Try.results14, go_sem, *]) rfl ⟨rfl, (by repeat (first | exact Below.refl _ _ | assumption | refine Below.drew ?_ | refine below_drewN ?_ _ | refine Below.alloc ?_ (by first | omega | (simp; done) | (simp; omega)) _ | refine Below.setCell ?_ (by first | omega | (simp; done) | (simp; omega)) _ | refine Below.trans ?_ (Below.mono (by assumption) (by first | omega | (simp; done) | (simp; omega)))))⟩ | exact bodyPost_ret (v := .tuple #[.int .i64 (rt n), .bool true]) (by simp [results, Try.results14, go_sem, *]) rfl ⟨rfl, (by repeat (first | exact Below.refl _ _ | assumption | refine Below.drew ?_ | refine below_drewN ?_ _ | refine Below.alloc ?_ (by first | omega | (simp; done) | (simp; omega)) _ | refine Below.setCell ?_ (by first | omega | (simp; done) | (simp; omega)) _ | refine Below.trans ?_ (Below.mono (by assumption) (by first | omega | (simp; done) | (simp; omega)))))⟩

theorem chord_bound {r h : Int} (h1 : 1 ≤ r) (h2 : r ≤ 1400) (h3 : 0 ≤ h) (h4 : h ≤ r) : 0 ≤ 2 * r * h ∧ 2 * r * h ≤ 3920000 ∧ 0 ≤ h * h ∧ h * h ≤ 1960000 ∧ 0 ≤ 2 * r * h - h * h ∧ 2 * r * h - h * h ≤ 1960000 := by
  have e1 : 2 * r * h = 2 * (r * h) := Int.mul_assoc 2 r h
  have e2 : h * h ≤ r * h := Int.mul_le_mul_of_nonneg_right h4 h3
  have e3 : r * h ≤ r * r := Int.mul_le_mul_of_nonneg_left h4 (by omega)
  have e4 : 0 ≤ h * h := Int.mul_nonneg h3 h3
  have e5 : r * r ≤ 1400 * 1400 := sq_mono (by omega) h2
  have e6 : 0 ≤ (r - h) * (r - h) := Int.mul_nonneg (by omega) (by omega)
  have e7 : (r - h) * (r - h) = r * r - 2 * (r * h) + h * h := by
    rw [Int.sub_mul, Int.mul_sub, Int.mul_sub, Int.mul_comm h r]
    omega
  omega
def chordK (r h : Int) : Bool := inB 1 r 1400 && inB 0 h r

set_option maxHeartbeats 1000000 in
theorem specChordOf_any (r h : Int) (w : World) :
    Calls Try.prog 28 #[.int .i64 r, .int .i64 h] w fun e w' => e = .returned (.tuple #[.int .i64 (guardI (chordK r h) (rt (4 * (2 * r * h - h * h)))), .bool (chordK r h)]) ∧ Below w.heap.size w w' := by
  have hck : chordK r h = (inB 1 r 1400 && inB 0 h r) := rfl
  have Hck := Lib.hid hck
  clear hck
  cases h1 : inB 1 r 1400 <;> cases h2 : inB 0 h r
  case' true.true =>
    obtain ⟨a1, a2⟩ := inB_iff.1 h1
    obtain ⟨a3, a4⟩ := inB_iff.1 h2
    obtain ⟨b1, b2, b3, b4, b5, b6⟩ := chord_bound a1 a2 a3 a4
    have v1 : IntKind.i64.wrap (2 * r) = 2 * r := IntWalk.i64_in _ (by omega)
    have v2 : IntKind.i64.wrap (2 * r * h) = 2 * r * h := IntWalk.i64_in _ (by omega)
    have v3 : IntKind.i64.wrap (h * h) = h * h := IntWalk.i64_in _ (by omega)
    have v4 : IntKind.i64.wrap (2 * r * h - h * h) = 2 * r * h - h * h := IntWalk.i64_in _ (by omega)
    have v5 : IntKind.i64.wrap (4 * (2 * r * h - h * h)) = 4 * (2 * r * h - h * h) := IntWalk.i64_in _ (by omega)
    have HR := Lib.hid (arRoot_any (4 * (2 * r * h - h * h)) (by omega) (by omega) w)
    have HW := Lib.hid (wholeRoot_any (4 * (2 * r * h - h * h)) (by omega) (by omega) w)
  all_goals
    go_enter Try.func28, Try.ntmps28
    go_wp2_with (first | (go_at_call 40; (refine (l1In_any _ _ _ _).mono ?_; rintro e w' ⟨rfl, rfl⟩)) | (go_at_call 41; (refine HR.out.mono ?_; rintro e w' ⟨rfl, rfl⟩)))
    first | exact bodyPost_ret (v := .tuple #[.int .i64 0, .bool false]) (by simp [results, Try.results28, go_sem, *]) rfl ⟨(by rw [Hck.out, h1, h2]; rfl), (by repeat (first | exact Below.refl _ _ | assumption | refine Below.drew ?_ | refine below_drewN ?_ _ | refine Below.alloc ?_ (by first | omega | (simp; done) | (simp; omega)) _ | refine Below.setCell ?_ (by first | omega | (simp; done) | (simp; omega)) _ | refine Below.trans ?_ (Below.mono (by assumption) (by first | omega | (simp; done) | (simp; omega)))))⟩ | exact bodyPost_ret (v := .tuple #[.int .i64 (rt (4 * (2 * r * h - h * h))), .bool true]) (by simp [results, Try.results28, go_sem, *]) rfl ⟨(by rw [Hck.out, h1, h2]; rfl), (by repeat (first | exact Below.refl _ _ | assumption | refine Below.drew ?_ | refine below_drewN ?_ _ | refine Below.alloc ?_ (by first | omega | (simp; done) | (simp; omega)) _ | refine Below.setCell ?_ (by first | omega | (simp; done) | (simp; omega)) _ | refine Below.trans ?_ (Below.mono (by assumption) (by first | omega | (simp; done) | (simp; omega)))))⟩

set_option maxHeartbeats 1000000 in
theorem chordOf_any (r h : Int) (w : World) :
    Calls Try.prog 29 #[.int .i64 r, .int .i64 h] w fun e w' => e = .returned (.tuple #[.int .i64 (guardI (chordK r h) (rt (4 * (2 * r * h - h * h)))), .bool (chordK r h)]) ∧ Below w.heap.size w w' := by
  have hck : chordK r h = (inB 1 r 1400 && inB 0 h r) := rfl
  have Hck := Lib.hid hck
  clear hck
  cases h1 : inB 1 r 1400 <;> cases h2 : inB 0 h r
  case' true.true =>
    obtain ⟨a1, a2⟩ := inB_iff.1 h1
    obtain ⟨a3, a4⟩ := inB_iff.1 h2
    obtain ⟨b1, b2, b3, b4, b5, b6⟩ := chord_bound a1 a2 a3 a4
    have v1 : IntKind.i64.wrap (2 * r) = 2 * r := IntWalk.i64_in _ (by omega)
    have v2 : IntKind.i64.wrap (2 * r * h) = 2 * r * h := IntWalk.i64_in _ (by omega)
    have v3 : IntKind.i64.wrap (h * h) = h * h := IntWalk.i64_in _ (by omega)
    have v4 : IntKind.i64.wrap (2 * r * h - h * h) = 2 * r * h - h * h := IntWalk.i64_in _ (by omega)
    have v5 : IntKind.i64.wrap (4 * (2 * r * h - h * h)) = 4 * (2 * r * h - h * h) := IntWalk.i64_in _ (by omega)
    have HR := Lib.hid (arRoot_any (4 * (2 * r * h - h * h)) (by omega) (by omega) w)
    have HW := Lib.hid (wholeRoot_any (4 * (2 * r * h - h * h)) (by omega) (by omega) w)
  all_goals
    go_enter Try.func29, Try.ntmps29
    go_wp2_with (first | (go_at_call 58; (refine (isRadius_any _ _).mono ?_; rintro e w' ⟨rfl, rfl⟩)) | (go_at_call 42; (refine (inRange_any _ _ _ _).mono ?_; rintro e w' ⟨rfl, rfl⟩)) | (go_at_call 43; (refine HW.out.mono ?_; rintro e w' ⟨rfl, rfl⟩)))
    first | exact bodyPost_ret (v := .tuple #[.int .i64 0, .bool false]) (by simp [results, Try.results29, go_sem, *]) rfl ⟨(by rw [Hck.out, h1, h2]; rfl), (by repeat (first | exact Below.refl _ _ | assumption | refine Below.drew ?_ | refine below_drewN ?_ _ | refine Below.alloc ?_ (by first | omega | (simp; done) | (simp; omega)) _ | refine Below.setCell ?_ (by first | omega | (simp; done) | (simp; omega)) _ | refine Below.trans ?_ (Below.mono (by assumption) (by first | omega | (simp; done) | (simp; omega)))))⟩ | exact bodyPost_ret (v := .tuple #[.int .i64 (rt (4 * (2 * r * h - h * h))), .bool true]) (by simp [results, Try.results29, go_sem, *]) rfl ⟨(by rw [Hck.out, h1, h2]; rfl), (by repeat (first | exact Below.refl _ _ | assumption | refine Below.drew ?_ | refine below_drewN ?_ _ | refine Below.alloc ?_ (by first | omega | (simp; done) | (simp; omega)) _ | refine Below.setCell ?_ (by first | omega | (simp; done) | (simp; omega)) _ | refine Below.trans ?_ (Below.mono (by assumption) (by first | omega | (simp; done) | (simp; omega)))))⟩

set_option maxHeartbeats 1000000 in
theorem squareOf_any (x1 y1 x2 y2 : Int) (w : World) :
    Calls Try.prog 54 #[.agg #[.int .i64 x1, .int .i64 y1], .agg #[.int .i64 x2, .int .i64 y2]] w fun e w' => e = .returned (.tuple #[.int .i64 (guardI (onField x1 y1 && onField x2 y2) (sqr x1 y1 x2 y2)), .bool (onField x1 y1 && onField x2 y2)]) ∧ Below w.heap.size w w' := by
  obtain ⟨q1, q2, q3, q4, q5, q6, q7⟩ := nadd
  cases h1 : onField x1 y1 <;> cases h2 : onField x2 y2
  case' true.true =>
    obtain ⟨s0, s1⟩ := sqr_bound h1 h2
    have HQ := Lib.hid (fun W => squareBetween_any x1 y1 x2 y2 h1 h2 W)
    have HZ := Lib.hid (fun W => stSquare_any x1 y1 x2 y2 h1 h2 W)
  all_goals
    go_enter Try.func54, Try.ntmps54
    go_wp2_with (first | (go_at_call 56; (refine (isSpot_any _ _ _).mono ?_; rintro e w1 ⟨rfl, hb1⟩; have hs1 := hb1.size; (try simp at hs1); (first | have hk4 := call_facts hl3 hb1 (by simp) | skip); (first | have hk3 := call_facts hl2 hb1 (by simp) | skip); (first | have hk2 := call_facts hl1 hb1 (by simp) | skip); have hk1 := call_facts (fun b h => h) hb1 (Nat.le_refl _); (first | have hl4 := hk4.1 | skip); (first | have hl3 := hk3.1 | skip); (first | have hl2 := hk2.1 | skip); have hl1 := hk1.1)) | (go_at_call 57; (refine (HQ.out _).mono ?_; rintro e w1 ⟨rfl, hb1⟩; have hs1 := hb1.size; (try simp at hs1); (first | have hk4 := call_facts hl3 hb1 (by simp) | skip); (first | have hk3 := call_facts hl2 hb1 (by simp) | skip); (first | have hk2 := call_facts hl1 hb1 (by simp) | skip); have hk1 := call_facts (fun b h => h) hb1 (Nat.le_refl _); (first | have hl4 := hk4.1 | skip); (first | have hl3 := hk3.1 | skip); (first | have hl2 := hk2.1 | skip); have hl1 := hk1.1)))
    first | exact bodyPost_ret (v := .tuple #[.int .i64 0, .bool false]) (by simp [results, Try.results54, go_sem, *]) rfl ⟨rfl, (by repeat (first | exact Below.refl _ _ | assumption | refine Below.drew ?_ | refine below_drewN ?_ _ | refine Below.alloc ?_ (by first | omega | (simp; done) | (simp; omega)) _ | refine Below.setCell ?_ (by first | omega | (simp; done) | (simp; omega)) _ | refine Below.trans ?_ (Below.mono (by assumption) (by first | omega | (simp; done) | (simp; omega)))))⟩ | exact bodyPost_ret (v := .tuple #[.int .i64 (sqr x1 y1 x2 y2), .bool true]) (by simp [results, Try.results54, go_sem, *]) rfl ⟨rfl, (by repeat (first | exact Below.refl _ _ | assumption | refine Below.drew ?_ | refine below_drewN ?_ _ | refine Below.alloc ?_ (by first | omega | (simp; done) | (simp; omega)) _ | refine Below.setCell ?_ (by first | omega | (simp; done) | (simp; omega)) _ | refine Below.trans ?_ (Below.mono (by assumption) (by first | omega | (simp; done) | (simp; omega)))))⟩

set_option maxHeartbeats 1000000 in
theorem specRadiusOf_any (x1 y1 x2 y2 : Int) (w : World) :
    Calls Try.prog 24 #[.agg #[.int .i64 x1, .int .i64 y1], .agg #[.int .i64 x2, .int .i64 y2]] w fun e w' => e = .returned (.tuple #[.int .i64 (guardI (onField x1 y1 && onField x2 y2) (rt (sqr x1 y1 x2 y2))), .bool (onField x1 y1 && onField x2 y2)]) ∧ Below w.heap.size w w' := by
  obtain ⟨q1, q2, q3, q4, q5, q6, q7⟩ := nadd
  cases h1 : onField x1 y1 <;> cases h2 : onField x2 y2
  case' true.true =>
    obtain ⟨s0, s1⟩ := sqr_bound h1 h2
    have HQ := Lib.hid (fun W => squareBetween_any x1 y1 x2 y2 h1 h2 W)
    have HZ := Lib.hid (fun W => stSquare_any x1 y1 x2 y2 h1 h2 W)
  all_goals
    go_enter Try.func24, Try.ntmps24
    go_wp2_with (first | (go_at_call 52; (refine (stTwo_any _ _ _ _ _).mono ?_; rintro e w1 ⟨rfl, hb1⟩; have hs1 := hb1.size; (try simp at hs1); (first | have hk4 := call_facts hl3 hb1 (by simp) | skip); (first | have hk3 := call_facts hl2 hb1 (by simp) | skip); (first | have hk2 := call_facts hl1 hb1 (by simp) | skip); have hk1 := call_facts (fun b h => h) hb1 (Nat.le_refl _); (first | have hl4 := hk4.1 | skip); (first | have hl3 := hk3.1 | skip); (first | have hl2 := hk2.1 | skip); have hl1 := hk1.1)) | (go_at_call 53; (refine (HZ.out _).mono ?_; rintro e w1 ⟨rfl, hb1⟩; have hs1 := hb1.size; (try simp at hs1); (first | have hk4 := call_facts hl3 hb1 (by simp) | skip); (first | have hk3 := call_facts hl2 hb1 (by simp) | skip); (first | have hk2 := call_facts hl1 hb1 (by simp) | skip); have hk1 := call_facts (fun b h => h) hb1 (Nat.le_refl _); (first | have hl4 := hk4.1 | skip); (first | have hl3 := hk3.1 | skip); (first | have hl2 := hk2.1 | skip); have hl1 := hk1.1)) | (go_at_call 41; (refine (arRoot_any _ (by omega) (by omega) _).mono ?_; rintro e w' ⟨rfl, rfl⟩)))
    first | exact bodyPost_ret (v := .tuple #[.int .i64 0, .bool false]) (by simp [results, Try.results24, go_sem, *]) rfl ⟨rfl, (by repeat (first | exact Below.refl _ _ | assumption | refine Below.drew ?_ | refine below_drewN ?_ _ | refine Below.alloc ?_ (by first | omega | (simp; done) | (simp; omega)) _ | refine Below.setCell ?_ (by first | omega | (simp; done) | (simp; omega)) _ | refine Below.trans ?_ (Below.mono (by assumption) (by first | omega | (simp; done) | (simp; omega)))))⟩ | exact bodyPost_ret (v := .tuple #[.int .i64 (rt (sqr x1 y1 x2 y2)), .bool true]) (by simp [results, Try.results24, go_sem, *]) rfl ⟨rfl, (by repeat (first | exact Below.refl _ _ | assumption | refine Below.drew ?_ | refine below_drewN ?_ _ | refine Below.alloc ?_ (by first | omega | (simp; done) | (simp; omega)) _ | refine Below.setCell ?_ (by first | omega | (simp; done) | (simp; omega)) _ | refine Below.trans ?_ (Below.mono (by assumption) (by first | omega | (simp; done) | (simp; omega)))))⟩

set_option maxHeartbeats 1000000 in
theorem radiusOf_any (x1 y1 x2 y2 : Int) (w : World) :
    Calls Try.prog 25 #[.agg #[.int .i64 x1, .int .i64 y1], .agg #[.int .i64 x2, .int .i64 y2]] w fun e w' => e = .returned (.tuple #[.int .i64 (guardI (onField x1 y1 && onField x2 y2) (rt (sqr x1 y1 x2 y2))), .bool (onField x1 y1 && onField x2 y2)]) ∧ Below w.heap.size w w' := by
  have HSQ := Lib.hid (fun W => squareOf_any x1 y1 x2 y2 W)
  cases h1 : onField x1 y1 <;> cases h2 : onField x2 y2
  case' true.true =>
    obtain ⟨s0, s1⟩ := sqr_bound h1 h2
    have HQ := Lib.hid (fun W => squareBetween_any x1 y1 x2 y2 h1 h2 W)
    have HZ := Lib.hid (fun W => stSquare_any x1 y1 x2 y2 h1 h2 W)
  all_goals simp only [h1, h2, Bool.and_self, Bool.and_false, Bool.false_and, Bool.and_true, guardI_facts.1, guardI_facts.2] at HSQ
  all_goals
    go_enter Try.func25, Try.ntmps25
    go_wp2_with (first | (go_at_call 54; (refine (HSQ.out _).mono ?_; rintro e w1 ⟨rfl, hb1⟩; have hs1 := hb1.size; (try simp at hs1); (first | have hk4 := call_facts hl3 hb1 (by simp) | skip); (first | have hk3 := call_facts hl2 hb1 (by simp) | skip); (first | have hk2 := call_facts hl1 hb1 (by simp) | skip); have hk1 := call_facts (fun b h => h) hb1 (Nat.le_refl _); (first | have hl4 := hk4.1 | skip); (first | have hl3 := hk3.1 | skip); (first | have hl2 := hk2.1 | skip); have hl1 := hk1.1)) | (go_at_call 43; (refine (wholeRoot_any _ (by omega) (by omega) _).mono ?_; rintro e w' ⟨rfl, rfl⟩)))
    first | exact bodyPost_ret (v := .tuple #[.int .i64 0, .bool false]) (by simp [results, Try.results25, go_sem, *]) rfl ⟨rfl, (by repeat (first | exact Below.refl _ _ | assumption | refine Below.drew ?_ | refine below_drewN ?_ _ | refine Below.alloc ?_ (by first | omega | (simp; done) | (simp; omega)) _ | refine Below.setCell ?_ (by first | omega | (simp; done) | (simp; omega)) _ | refine Below.trans ?_ (Below.mono (by assumption) (by first | omega | (simp; done) | (simp; omega)))))⟩ | exact bodyPost_ret (v := .tuple #[.int .i64 (rt (sqr x1 y1 x2 y2)), .bool true]) (by simp [results, Try.results25, go_sem, *]) rfl ⟨rfl, (by repeat (first | exact Below.refl _ _ | assumption | refine Below.drew ?_ | refine below_drewN ?_ _ | refine Below.alloc ?_ (by first | omega | (simp; done) | (simp; omega)) _ | refine Below.setCell ?_ (by first | omega | (simp; done) | (simp; omega)) _ | refine Below.trans ?_ (Below.mono (by assumption) (by first | omega | (simp; done) | (simp; omega)))))⟩

def arOk (x y r : Int) : Bool := onField x y && inB 1 r 1400

set_option maxHeartbeats 400000 in
theorem arGood_any (x y r : Int) (w : World) :
    Calls Try.prog 44 #[.agg #[.int .i64 x, .int .i64 y], .int .i64 r] w fun e w' => e = .returned (.bool (arOk x y r)) ∧ Below w.heap.size w w' := by
  have hak : arOk x y r = (onField x y && inB 1 r 1400) := rfl
  have Hak := Lib.hid hak
  clear hak
  cases h1 : onField x y <;> cases h2 : inB 1 r 1400
  all_goals
    go_enter Try.func44, Try.ntmps44
    go_wp2_with (first | (go_at_call 55; (refine (stGood_any _ _ _).mono ?_; rintro e w1 ⟨rfl, hb1⟩; have hs1 := hb1.size; (try simp at hs1); obtain ⟨hc1, hf1, hl1⟩ := bcellN (w.heap.size + 1) hb1 (by first | omega | (simp; done) | (simp; omega)))) | (go_at_call 40; (refine (l1In_any _ _ _ _).mono ?_; rintro e w' ⟨rfl, rfl⟩)))
    first | exact bodyPost_ret (v := .bool false) (by simp [results, Try.results44, go_sem, *]) rfl ⟨(by rw [Hak.out, h1, h2]; rfl), (by repeat (first | exact Below.refl _ _ | assumption | refine Below.drew ?_ | refine below_drewN ?_ _ | refine Below.alloc ?_ (by first | omega | (simp; done) | (simp; omega)) _ | refine Below.setCell ?_ (by first | omega | (simp; done) | (simp; omega)) _ | refine Below.trans ?_ (Below.mono (by assumption) (by first | omega | (simp; done) | (simp; omega)))))⟩ | exact bodyPost_ret (v := .bool true) (by simp [results, Try.results44, go_sem, *]) rfl ⟨(by rw [Hak.out, h1, h2]; rfl), (by repeat (first | exact Below.refl _ _ | assumption | refine Below.drew ?_ | refine below_drewN ?_ _ | refine Below.alloc ?_ (by first | omega | (simp; done) | (simp; omega)) _ | refine Below.setCell ?_ (by first | omega | (simp; done) | (simp; omega)) _ | refine Below.trans ?_ (Below.mono (by assumption) (by first | omega | (simp; done) | (simp; omega)))))⟩

set_option maxHeartbeats 400000 in
theorem isArc_any (x y r : Int) (w : World) :
    Calls Try.prog 46 #[.agg #[.int .i64 x, .int .i64 y], .int .i64 r] w fun e w' => e = .returned (.bool (arOk x y r)) ∧ Below w.heap.size w w' := by
  have hak : arOk x y r = (onField x y && inB 1 r 1400) := rfl
  have Hak := Lib.hid hak
  clear hak
  cases h1 : onField x y <;> cases h2 : inB 1 r 1400
  all_goals
    go_enter Try.func46, Try.ntmps46
    go_wp2_with (first | (go_at_call 56; (refine (isSpot_any _ _ _).mono ?_; rintro e w1 ⟨rfl, hb1⟩; have hs1 := hb1.size; (try simp at hs1); obtain ⟨hc1, hf1, hl1⟩ := bcellN (w.heap.size + 1) hb1 (by first | omega | (simp; done) | (simp; omega)))) | (go_at_call 58; (refine (isRadius_any _ _).mono ?_; rintro e w' ⟨rfl, rfl⟩)))
    first | exact bodyPost_ret (v := .bool false) (by simp [results, Try.results46, go_sem, *]) rfl ⟨(by rw [Hak.out, h1, h2]; rfl), (by repeat (first | exact Below.refl _ _ | assumption | refine Below.drew ?_ | refine below_drewN ?_ _ | refine Below.alloc ?_ (by first | omega | (simp; done) | (simp; omega)) _ | refine Below.setCell ?_ (by first | omega | (simp; done) | (simp; omega)) _ | refine Below.trans ?_ (Below.mono (by assumption) (by first | omega | (simp; done) | (simp; omega)))))⟩ | exact bodyPost_ret (v := .bool true) (by simp [results, Try.results46, go_sem, *]) rfl ⟨(by rw [Hak.out, h1, h2]; rfl), (by repeat (first | exact Below.refl _ _ | assumption | refine Below.drew ?_ | refine below_drewN ?_ _ | refine Below.alloc ?_ (by first | omega | (simp; done) | (simp; omega)) _ | refine Below.setCell ?_ (by first | omega | (simp; done) | (simp; omega)) _ | refine Below.trans ?_ (Below.mono (by assumption) (by first | omega | (simp; done) | (simp; omega)))))⟩

set_option maxHeartbeats 400000 in
theorem stIf_any (x y : Int) (w : World) :
    Calls Try.prog 45 #[.int .i64 x, .int .i64 y] w fun e w' => e = .returned (.tuple #[.agg #[.int .i64 (guardI (onField x y) x), .int .i64 (guardI (onField x y) y)], .bool (onField x y)]) ∧ Below w.heap.size w w' := by
  cases h1 : onField x y
  all_goals
    go_enter Try.func45, Try.ntmps45
    go_wp2_with (first | (go_at_call 55; (refine (stGood_any _ _ _).mono ?_; rintro e w1 ⟨rfl, hb1⟩; have hs1 := hb1.size; (try simp at hs1); obtain ⟨hc1, hf1, hl1⟩ := bcellN (w.heap.size + 2) hb1 (by first | omega | (simp; done) | (simp; omega)))))
    first | exact bodyPost_ret (v := .tuple #[.agg #[.int .i64 0, .int .i64 0], .bool false]) (by simp [results, Try.results45, go_sem, *]) rfl ⟨rfl, (by repeat (first | exact Below.refl _ _ | assumption | refine Below.drew ?_ | refine below_drewN ?_ _ | refine Below.alloc ?_ (by first | omega | (simp; done) | (simp; omega)) _ | refine Below.setCell ?_ (by first | omega | (simp; done) | (simp; omega)) _ | refine Below.trans ?_ (Below.mono (by assumption) (by first | omega | (simp; done) | (simp; omega)))))⟩ | exact bodyPost_ret (v := .tuple #[.agg #[.int .i64 x, .int .i64 y], .bool true]) (by simp [results, Try.results45, go_sem, *]) rfl ⟨rfl, (by repeat (first | exact Below.refl _ _ | assumption | refine Below.drew ?_ | refine below_drewN ?_ _ | refine Below.alloc ?_ (by first | omega | (simp; done) | (simp; omega)) _ | refine Below.setCell ?_ (by first | omega | (simp; done) | (simp; omega)) _ | refine Below.trans ?_ (Below.mono (by assumption) (by first | omega | (simp; done) | (simp; omega)))))⟩

set_option maxHeartbeats 400000 in
theorem spotOf_any (x y : Int) (w : World) :
    Calls Try.prog 47 #[.agg #[.int .i64 x, .int .i64 y]] w fun e w' => e = .returned (.tuple #[.agg #[.int .i64 (guardI (onField x y) x), .int .i64 (guardI (onField x y) y)], .bool (onField x y)]) ∧ Below w.heap.size w w' := by
  cases h1 : onField x y
  all_goals
    go_enter Try.func47, Try.ntmps47
    go_wp2_with (first | (go_at_call 56; (refine (isSpot_any _ _ _).mono ?_; rintro e w1 ⟨rfl, hb1⟩; have hs1 := hb1.size; (try simp at hs1); obtain ⟨hc1, hf1, hl1⟩ := bcellN (w.heap.size + 2) hb1 (by first | omega | (simp; done) | (simp; omega)))))
    first | exact bodyPost_ret (v := .tuple #[.agg #[.int .i64 0, .int .i64 0], .bool false]) (by simp [results, Try.results47, go_sem, *]) rfl ⟨rfl, (by repeat (first | exact Below.refl _ _ | assumption | refine Below.drew ?_ | refine below_drewN ?_ _ | refine Below.alloc ?_ (by first | omega | (simp; done) | (simp; omega)) _ | refine Below.setCell ?_ (by first | omega | (simp; done) | (simp; omega)) _ | refine Below.trans ?_ (Below.mono (by assumption) (by first | omega | (simp; done) | (simp; omega)))))⟩ | exact bodyPost_ret (v := .tuple #[.agg #[.int .i64 x, .int .i64 y], .bool true]) (by simp [results, Try.results47, go_sem, *]) rfl ⟨rfl, (by repeat (first | exact Below.refl _ _ | assumption | refine Below.drew ?_ | refine below_drewN ?_ _ | refine Below.alloc ?_ (by first | omega | (simp; done) | (simp; omega)) _ | refine Below.setCell ?_ (by first | omega | (simp; done) | (simp; omega)) _ | refine Below.trans ?_ (Below.mono (by assumption) (by first | omega | (simp; done) | (simp; omega)))))⟩

end Go.Proofs.Ytjdpbjpeohdoiaa
