/- Ways that cross: sides, places between, both sides. Conditions: those written in each theorem. -/
import Derived.Test.YtjojjmmdgldcbaaApLi
import Derived.Deep.RegionHeld3
import Derived.Deep.DrawnRows
import Derived.IntWalk
import Derived.StillTailTactics
import Derived.Deep.DeepCutAuto
import Derived.Lib.QuietBelow
namespace Go.Proofs.Ytjojjmmdgldcbaa
open Go.RowKit Go.Sort


attribute [local go_sem ↓] Go.wp_at_zero Go.wp_at_succ

/-- On which side of the line from the first spot to the second lies a third. -/
def sd (x1 y1 x2 y2 a b : Int) : Int := (x2 - x1) * (b - y1) - (y2 - y1) * (a - x1)
/-- Does a spot of the line lie between both? -/
def onW (x1 y1 x2 y2 a b : Int) : Bool := inB (lo2 x1 x2) a (hi2 x1 x2) && inB (lo2 y1 y2) b (hi2 y1 y2)
def btw (x1 y1 x2 y2 a b : Int) : Bool := (sd x1 y1 x2 y2 a b == 0) && onW x1 y1 x2 y2 a b
def sgn (n : Int) : Int := if 0 < n then 1 else if n < 0 then -1 else 0
theorem sd_facts {x1 y1 x2 y2 a b : Int} (h1 : onField x1 y1 = true) (h2 : onField x2 y2 = true) (h3 : onField a b = true) : ∃ d e f g p q S : Int, IntKind.i64.wrap (x2 - x1) = d ∧ IntKind.i64.wrap (b - y1) = e ∧ IntKind.i64.wrap (d * e) = p ∧ IntKind.i64.wrap (y2 - y1) = f ∧ IntKind.i64.wrap (a - x1) = g ∧ IntKind.i64.wrap (f * g) = q ∧ IntKind.i64.wrap (p - q) = S ∧ S = sd x1 y1 x2 y2 a b ∧ -1720320 ≤ S ∧ S ≤ 1720320 ∧ (p = q ↔ S = 0) := by
  obtain ⟨⟨a1, a2⟩, a3, a4⟩ := onField_iff.1 h1
  obtain ⟨⟨b1, b2⟩, b3, b4⟩ := onField_iff.1 h2
  obtain ⟨⟨c1, c2⟩, c3, c4⟩ := onField_iff.1 h3
  have d1 := mul_bd (a := x2 - x1) (b := b - y1) (m := 1280) (n := 672) (by omega) (by omega) (by omega) (by omega)
  have d2 := mul_bd (a := y2 - y1) (b := a - x1) (m := 672) (n := 1280) (by omega) (by omega) (by omega) (by omega)
  refine ⟨x2 - x1, b - y1, y2 - y1, a - x1, (x2 - x1) * (b - y1), (y2 - y1) * (a - x1), _, IntWalk.i64_in _ (by omega), IntWalk.i64_in _ (by omega), IntWalk.i64_in _ (by omega), IntWalk.i64_in _ (by omega), IntWalk.i64_in _ (by omega), IntWalk.i64_in _ (by omega), ?_, rfl, ?_, ?_, ?_⟩
  · unfold sd; exact IntWalk.i64_in _ (by omega)
  all_goals unfold sd; omega
theorem sgn_pos {n : Int} (h : 0 < n) : sgn n = 1 := if_pos h
theorem sgn_neg {n : Int} (h : n < 0) : sgn n = -1 := by unfold sgn; rw [if_neg (by omega), if_pos h]
theorem sgn_zero {n : Int} (h0 : ¬ 0 < n) (h : ¬ n < 0) : sgn n = 0 := by unfold sgn; rw [if_neg h0, if_neg h]
theorem sgn_is0 (n : Int) : (sgn n == 0) = (n == 0) := by
  rcases Int.lt_trichotomy n 0 with h | h | h
  · rw [sgn_neg h]; simp; omega
  · subst h; rfl
  · rw [sgn_pos h]; simp; omega
theorem sgn_mul (m n : Int) : decide (sgn m * sgn n < 0) = decide (m * n < 0) := by
  refine decide_eq_decide.2 ?_
  rcases Int.lt_trichotomy m 0 with h | h | h
  · rw [sgn_neg h]
    rcases Int.lt_trichotomy n 0 with k | k | k
    · rw [sgn_neg k]; have := Int.mul_pos_of_neg_of_neg h k; omega
    · subst k; simp [sgn]
    · rw [sgn_pos k]; have := Int.mul_neg_of_neg_of_pos h k; omega
  · subst h; simp [sgn]
  · rw [sgn_pos h]
    rcases Int.lt_trichotomy n 0 with k | k | k
    · rw [sgn_neg k]; have := Int.mul_neg_of_pos_of_neg h k; omega
    · subst k; simp [sgn]
    · rw [sgn_pos k]; have := Int.mul_pos h k; omega
theorem sgn_bd (n : Int) : -1 ≤ sgn n ∧ sgn n ≤ 1 := by unfold sgn; split <;> (try split) <;> omega

set_option maxHeartbeats 400000 in
theorem l1Sign_any (n : Int) (w : World) :
    Calls Try.prog 95 #[.int .i64 n] w fun e w' => e = .returned (.int .i64 (sgn n)) ∧ w = w' := by
  by_cases h : 0 < n
  all_goals (try by_cases h2 : n < 0)
  all_goals first | rw [sgn_pos h] | rw [sgn_neg h2] | rw [sgn_zero h h2]
  all_goals
    go_enter Try.func95, Try.ntmps95
    go_wp2
    go_ret
    exact ⟨rfl, rfl⟩

set_option maxHeartbeats 1000000 in
theorem apSide_any (x1 y1 x2 y2 a b : Int) (h1 : onField x1 y1 = true) (h2 : onField x2 y2 = true) (h3 : onField a b = true) (w : World) :
    Calls Try.prog 72 #[.agg #[.int .i64 x1, .int .i64 y1], .agg #[.int .i64 x2, .int .i64 y2], .agg #[.int .i64 a, .int .i64 b]] w fun e w' => e = .returned (.int .i64 (sgn (sd x1 y1 x2 y2 a b))) ∧ Below w.heap.size w w' := by
  obtain ⟨q1, q2, q3, q4, q5, q6, q7⟩ := nadd
  obtain ⟨d, e', f, g, p, q, S, u1, u2, u3, u4, u5, u6, u7, hS, s0, s1, hpq⟩ := sd_facts h1 h2 h3
  have HG := Lib.hid (fun W => l1Sign_any S W)
  rw [← hS]
  obtain ⟨T, hT⟩ : ∃ T, T = sgn S := ⟨_, rfl⟩
  rw [← hT] at HG
  rw [← hT]
  clear h1 h2 h3 hS s0 s1 hpq hT
  all_goals
    go_enter Try.func72, Try.ntmps72
    go_wp2_with (first | (go_at_call 95; ((with_reducible refine (HG.out _).mono ?_); rintro e w' ⟨rfl, rfl⟩)))
    first | exact bodyPost_ret (v := .int .i64 T) (by simp [results, Try.results72, go_sem, *]) rfl ⟨rfl, (by repeat (first | exact Below.refl _ _ | assumption | refine Below.drew ?_ | refine below_drewN ?_ _ | refine Below.alloc ?_ (by first | omega | (simp; done) | (simp; omega)) _ | refine Below.setCell ?_ (by first | omega | (simp; done) | (simp; omega)) _ | refine Below.trans ?_ (Below.mono (by assumption) (by first | omega | (simp; done) | (simp; omega)))))⟩

set_option maxHeartbeats 1000000 in
theorem sideOf_any (x1 y1 x2 y2 a b n : Int) (h1 : onField x1 y1 = true) (h2 : onField x2 y2 = true) (h3 : onField a b = true) (w : World) :
    Calls Try.prog 96 #[.agg #[.int .i64 x1, .int .i64 y1, .int .i64 x2, .int .i64 y2, .int .i64 n], .agg #[.int .i64 a, .int .i64 b]] w fun e w' => e = .returned (.int .i64 (sd x1 y1 x2 y2 a b)) ∧ Below w.heap.size w w' := by
  obtain ⟨q1, q2, q3, q4, q5, q6, q7⟩ := nadd
  obtain ⟨d, e', f, g, p, q, S, u1, u2, u3, u4, u5, u6, u7, hS, s0, s1, hpq⟩ := sd_facts h1 h2 h3
  rw [← hS]
  clear h1 h2 h3 hS s0 s1 hpq
  all_goals
    go_enter Try.func96, Try.ntmps96
    go_wp2
    first | exact bodyPost_ret (v := .int .i64 S) (by simp [results, Try.results96, go_sem, *]) rfl ⟨rfl, (by repeat (first | exact Below.refl _ _ | assumption | refine Below.drew ?_ | refine below_drewN ?_ _ | refine Below.alloc ?_ (by first | omega | (simp; done) | (simp; omega)) _ | refine Below.setCell ?_ (by first | omega | (simp; done) | (simp; omega)) _ | refine Below.trans ?_ (Below.mono (by assumption) (by first | omega | (simp; done) | (simp; omega)))))⟩

set_option maxHeartbeats 1000000 in
theorem apOn_any (x1 y1 x2 y2 a b : Int) (w : World) :
    Calls Try.prog 73 #[.agg #[.int .i64 x1, .int .i64 y1], .agg #[.int .i64 x2, .int .i64 y2], .agg #[.int .i64 a, .int .i64 b]] w fun e w' => e = .returned (.bool (onW x1 y1 x2 y2 a b)) ∧ Below w.heap.size w w' := by
  obtain ⟨q1, q2, q3, q4, q5, q6, q7⟩ := nadd
  have HI1 := Lib.hid (fun W => l1In_any a (lo2 x1 x2) (hi2 x1 x2) W)
  have HI2 := Lib.hid (fun W => l1In_any b (lo2 y1 y2) (hi2 y1 y2) W)
  unfold onW
  cases k1 : inB (lo2 x1 x2) a (hi2 x1 x2) <;> cases k2 : inB (lo2 y1 y2) b (hi2 y1 y2)
  all_goals
    rw [k1] at HI1
    rw [k2] at HI2
    clear k1 k2
  all_goals
    go_enter Try.func73, Try.ntmps73
    go_wp2
    go_quiet ((first | (go_at_call 93; exact Calls.quiet_of_same ((l1Least_any _ _ _).mono (fun _ _ h => ⟨h.1, h.2.symm⟩))) | (go_at_call 87; exact Calls.quiet_of_same ((l1Most_any _ _ _).mono (fun _ _ h => ⟨h.1, h.2.symm⟩))) | (go_at_call 54; with_reducible exact Calls.quiet_of_same ((HI1.out _).mono (fun _ _ h => ⟨h.1, h.2.symm⟩))) | (go_at_call 54; with_reducible exact Calls.quiet_of_same ((HI2.out _).mono (fun _ _ h => ⟨h.1, h.2.symm⟩)))))
    go_wp2
    go_ret
    exact ⟨rfl, (by repeat (first | exact Below.refl _ _ | assumption | refine Below.drew ?_ | refine below_drewN ?_ _ | refine Below.alloc ?_ (by first | omega | (simp; done) | (simp; omega)) _ | refine Below.setCell ?_ (by first | omega | (simp; done) | (simp; omega)) _ | refine Below.trans ?_ (Below.mono (by assumption) (by first | omega | (simp; done) | (simp; omega)))))⟩

theorem mn_lo (a b : Int) : mnB a b = lo2 a b := by unfold mnB lo2; split <;> split <;> omega
theorem mx_hi (a b : Int) : mxB a b = hi2 a b := by unfold mxB hi2; split <;> split <;> omega
theorem btw_eq {x1 y1 x2 y2 a b : Int} : btw x1 y1 x2 y2 a b = (decide ((x2 - x1) * (b - y1) = (y2 - y1) * (a - x1)) && inB (mnB x1 x2) a (mxB x1 x2) && inB (mnB y1 y2) b (mxB y1 y2)) := by
  unfold btw onW sd
  rw [mn_lo, mn_lo, mx_hi, mx_hi, Bool.and_assoc]
  congr 1
  rw [Bool.eq_iff_iff]
  simp
  omega

set_option maxHeartbeats 2000000 in
theorem betweenY_any (x1 y1 x2 y2 a b : Int) (h1 : onField x1 y1 = true) (h2 : onField x2 y2 = true) (h3 : onField a b = true) (w : World) :
    Calls Try.prog 97 #[.agg #[.int .i64 x1, .int .i64 y1], .agg #[.int .i64 x2, .int .i64 y2], .agg #[.int .i64 a, .int .i64 b]] w fun e w' => e = .returned (.tuple #[.bool (btw x1 y1 x2 y2 a b), .bool true]) ∧ Below w.heap.size w w' := by
  obtain ⟨q1, q2, q3, q4, q5, q6, q7⟩ := nadd
  obtain ⟨d, e', f, g, p, q, S, u1, u2, u3, u4, u5, u6, u7, hS, s0, s1, hpq⟩ := sd_facts h1 h2 h3
  have HS1 := Lib.hid (fun W => isSpot_any x1 y1 W)
  have HS2 := Lib.hid (fun W => isSpot_any x2 y2 W)
  have HS3 := Lib.hid (fun W => isSpot_any a b W)
  rw [h1] at HS1
  rw [h2] at HS2
  rw [h3] at HS3
  have HI1 := Lib.hid (fun W => inRange_any a (mnB x1 x2) (mxB x1 x2) W)
  have HI2 := Lib.hid (fun W => inRange_any b (mnB y1 y2) (mxB y1 y2) W)
  have e0 : btw x1 y1 x2 y2 a b = (decide (p = q) && inB (mnB x1 x2) a (mxB x1 x2) && inB (mnB y1 y2) b (mxB y1 y2)) := by
    rw [btw_eq]
    congr 2
    refine decide_eq_decide.2 (Iff.trans ?_ hpq.symm)
    rw [hS]
    unfold sd
    omega
  rw [e0]
  clear e0
  have m1 : ∀ a b : Int, (if a < b then b else a) = mxB a b := fun _ _ => rfl
  have m2 : ∀ a b : Int, (if b < a then b else a) = mnB a b := fun _ _ => rfl
  clear h1 h2 h3 hS s0 s1 hpq
  cases k1 : inB (mnB x1 x2) a (mxB x1 x2) <;> cases k2 : inB (mnB y1 y2) b (mxB y1 y2)
  all_goals
    rw [k1] at HI1
    rw [k2] at HI2
    clear k1 k2
  all_goals by_cases k0 : p = q
  all_goals first | (have z0 : (p == q) = true := beq_iff_eq.2 k0; rw [decide_eq_true k0]) | (have z0 : (p == q) = false := beq_eq_false_iff_ne.2 k0; rw [decide_eq_false k0])
  all_goals clear k0
  all_goals
    go_enter Try.func97, Try.ntmps97
    go_wp2_with (first | (go_at_call 104; ((with_reducible refine (HS1.out _).mono ?_); rintro e w1 ⟨rfl, hb1⟩; have hs1 := hb1.size; (try simp at hs1); (first | have hk4 := call_facts hl3 hb1 (by first | omega | (simp; done) | (simp; omega)) | skip); (first | have hk3 := call_facts hl2 hb1 (by first | omega | (simp; done) | (simp; omega)) | skip); (first | have hk2 := call_facts hl1 hb1 (by first | omega | (simp; done) | (simp; omega)) | skip); have hk1 := call_facts (fun b h => h) hb1 (Nat.le_refl _); (first | have hl4 := hk4.1 | skip); (first | have hl3 := hk3.1 | skip); (first | have hl2 := hk2.1 | skip); have hl1 := hk1.1)) | (go_at_call 104; ((with_reducible refine (HS2.out _).mono ?_); rintro e w1 ⟨rfl, hb1⟩; have hs1 := hb1.size; (try simp at hs1); (first | have hk4 := call_facts hl3 hb1 (by first | omega | (simp; done) | (simp; omega)) | skip); (first | have hk3 := call_facts hl2 hb1 (by first | omega | (simp; done) | (simp; omega)) | skip); (first | have hk2 := call_facts hl1 hb1 (by first | omega | (simp; done) | (simp; omega)) | skip); have hk1 := call_facts (fun b h => h) hb1 (Nat.le_refl _); (first | have hl4 := hk4.1 | skip); (first | have hl3 := hk3.1 | skip); (first | have hl2 := hk2.1 | skip); have hl1 := hk1.1)) | (go_at_call 104; ((with_reducible refine (HS3.out _).mono ?_); rintro e w1 ⟨rfl, hb1⟩; have hs1 := hb1.size; (try simp at hs1); (first | have hk4 := call_facts hl3 hb1 (by first | omega | (simp; done) | (simp; omega)) | skip); (first | have hk3 := call_facts hl2 hb1 (by first | omega | (simp; done) | (simp; omega)) | skip); (first | have hk2 := call_facts hl1 hb1 (by first | omega | (simp; done) | (simp; omega)) | skip); have hk1 := call_facts (fun b h => h) hb1 (Nat.le_refl _); (first | have hl4 := hk4.1 | skip); (first | have hl3 := hk3.1 | skip); (first | have hl2 := hk2.1 | skip); have hl1 := hk1.1)) | (go_at_call 59; ((with_reducible refine (HI1.out _).mono ?_); rintro e w' ⟨rfl, rfl⟩)) | (go_at_call 59; ((with_reducible refine (HI2.out _).mono ?_); rintro e w' ⟨rfl, rfl⟩)))
    first | exact bodyPost_ret (v := .tuple #[.bool true, .bool true]) (by simp [results, Try.results97, go_sem, *]) rfl ⟨rfl, (by repeat (first | exact Below.refl _ _ | assumption | refine Below.drew ?_ | refine below_drewN ?_ _ | refine Below.alloc ?_ (by first | omega | (simp; done) | (simp; omega)) _ | refine Below.setCell ?_ (by first | omega | (simp; done) | (simp; omega)) _ | refine Below.trans ?_ (Below.mono (by assumption) (by first | omega | (simp; done) | (simp; omega)))))⟩ | exact bodyPost_ret (v := .tuple #[.bool false, .bool true]) (by simp [results, Try.results97, go_sem, *]) rfl ⟨rfl, (by repeat (first | exact Below.refl _ _ | assumption | refine Below.drew ?_ | refine below_drewN ?_ _ | refine Below.alloc ?_ (by first | omega | (simp; done) | (simp; omega)) _ | refine Below.setCell ?_ (by first | omega | (simp; done) | (simp; omega)) _ | refine Below.trans ?_ (Below.mono (by assumption) (by first | omega | (simp; done) | (simp; omega)))))⟩

end Go.Proofs.Ytjojjmmdgldcbaa
