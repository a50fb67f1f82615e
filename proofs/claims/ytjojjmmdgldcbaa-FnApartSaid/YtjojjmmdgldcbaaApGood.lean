/- Moves that go together, both sides; the specification's least square. Conditions: those written in each theorem. -/
import Derived.Test.YtjojjmmdgldcbaaApGcd
import Derived.Test.YtjojjmmdgldcbaaMv
import Derived.Deep.RegionHeld3
import Derived.Deep.DrawnRows
import Derived.IntWalk
import Derived.StillTailTactics
namespace Go.Proofs.Ytjojjmmdgldcbaa
open Go.RowKit


attribute [local go_sem ↓] Go.wp_at_zero Go.wp_at_succ

/-- Do two moves go together? -/
def gtog (x1 y1 x2 y2 n x3 y3 x4 y4 m : Int) : Bool := isMv x1 y1 x2 y2 n && isMv x3 y3 x4 y4 m && decide (n = m)
theorem gtog_no1 {x1 y1 x2 y2 n x3 y3 x4 y4 m : Int} (h : isMv x1 y1 x2 y2 n = false) : gtog x1 y1 x2 y2 n x3 y3 x4 y4 m = false := by simp [gtog, h]
theorem gtog_no2 {x1 y1 x2 y2 n x3 y3 x4 y4 m : Int} (h : isMv x1 y1 x2 y2 n = true) (h2 : isMv x3 y3 x4 y4 m = false) : gtog x1 y1 x2 y2 n x3 y3 x4 y4 m = false := by simp [gtog, h, h2]
theorem gtog_ne {x1 y1 x2 y2 n x3 y3 x4 y4 m : Int} (h : isMv x1 y1 x2 y2 n = true) (h2 : isMv x3 y3 x4 y4 m = true) (h3 : ¬ n = m) : gtog x1 y1 x2 y2 n x3 y3 x4 y4 m = false := by simp [gtog, h, h2, h3]
theorem gtog_eq {x1 y1 x2 y2 n x3 y3 x4 y4 m : Int} (h : isMv x1 y1 x2 y2 n = true) (h2 : isMv x3 y3 x4 y4 m = true) (h3 : n = m) : gtog x1 y1 x2 y2 n x3 y3 x4 y4 m = true := by unfold gtog; rw [h, h2, decide_eq_true h3]; rfl
theorem gtog_iff {x1 y1 x2 y2 n x3 y3 x4 y4 m : Int} : gtog x1 y1 x2 y2 n x3 y3 x4 y4 m = true ↔ isMv x1 y1 x2 y2 n = true ∧ isMv x3 y3 x4 y4 m = true ∧ n = m := by simp [gtog, and_assoc]
/-- The ways from the one to the other. -/
theorem gtog_way {x1 y1 x2 y2 n x3 y3 x4 y4 m : Int} (h : gtog x1 y1 x2 y2 n x3 y3 x4 y4 m = true) : wayOk (x1 - x3) (y1 - y3) (x2 - x4) (y2 - y4) ∧ (1 ≤ n ∧ n ≤ 64) ∧ n = m ∧ IntKind.i64.wrap (x1 - x3) = x1 - x3 ∧ IntKind.i64.wrap (y1 - y3) = y1 - y3 ∧ IntKind.i64.wrap (x2 - x4) = x2 - x4 ∧ IntKind.i64.wrap (y2 - y4) = y2 - y4 := by
  obtain ⟨h1, h2, h3⟩ := gtog_iff.1 h
  obtain ⟨a1, a2, a3, a4⟩ := isMv_iff.1 h1
  obtain ⟨b1, b2, b3, b4⟩ := isMv_iff.1 h2
  obtain ⟨⟨c1, c2⟩, c3, c4⟩ := onField_iff.1 a1
  obtain ⟨⟨c5, c6⟩, c7, c8⟩ := onField_iff.1 a2
  obtain ⟨⟨d1, d2⟩, d3, d4⟩ := onField_iff.1 b1
  obtain ⟨⟨d5, d6⟩, d7, d8⟩ := onField_iff.1 b2
  refine ⟨?_, ⟨a3, a4⟩, h3, IntWalk.i64_in _ (by omega), IntWalk.i64_in _ (by omega), IntWalk.i64_in _ (by omega), IntWalk.i64_in _ (by omega)⟩
  unfold wayOk
  omega

set_option maxHeartbeats 1000000 in
theorem apGood_no1 (x1 y1 x2 y2 n x3 y3 x4 y4 m : Int) (h1 : isMv x1 y1 x2 y2 n = false) (w : World) :
    Calls Try.prog 53 #[.agg #[.int .i64 x1, .int .i64 y1, .int .i64 x2, .int .i64 y2, .int .i64 n], .agg #[.int .i64 x3, .int .i64 y3, .int .i64 x4, .int .i64 y4, .int .i64 m]] w fun e w' => e = .returned (.bool (gtog x1 y1 x2 y2 n x3 y3 x4 y4 m)) ∧ Below w.heap.size w w' := by
  obtain ⟨q1, q2, q3, q4, q5, q6, q7⟩ := nadd
  have e0 := gtog_no1 (x3 := x3) (y3 := y3) (x4 := x4) (y4 := y4) (m := m) h1
  rw [e0]
  clear e0
  have HA := Lib.hid (fun W => mvGood_any x1 y1 x2 y2 n W)
  have HB := Lib.hid (fun W => mvGood_any x3 y3 x4 y4 m W)
  try rw [h1] at HA
  try rw [h2] at HB
  clear h1
  all_goals
    go_enter Try.func53, Try.ntmps53
    go_wp2_with (first | (go_at_call 88; ((with_reducible refine (HA.out _).mono ?_); rintro e w1 ⟨rfl, hb1⟩; have hs1 := hb1.size; (try simp at hs1); (first | have hk4 := call_facts hl3 hb1 (by simp) | skip); (first | have hk3 := call_facts hl2 hb1 (by simp) | skip); (first | have hk2 := call_facts hl1 hb1 (by simp) | skip); have hk1 := call_facts (fun b h => h) hb1 (Nat.le_refl _); (first | have hl4 := hk4.1 | skip); (first | have hl3 := hk3.1 | skip); (first | have hl2 := hk2.1 | skip); have hl1 := hk1.1)) | (go_at_call 88; ((with_reducible refine (HB.out _).mono ?_); rintro e w1 ⟨rfl, hb1⟩; have hs1 := hb1.size; (try simp at hs1); (first | have hk4 := call_facts hl3 hb1 (by simp) | skip); (first | have hk3 := call_facts hl2 hb1 (by simp) | skip); (first | have hk2 := call_facts hl1 hb1 (by simp) | skip); have hk1 := call_facts (fun b h => h) hb1 (Nat.le_refl _); (first | have hl4 := hk4.1 | skip); (first | have hl3 := hk3.1 | skip); (first | have hl2 := hk2.1 | skip); have hl1 := hk1.1)))
    go_ret
    exact ⟨rfl, (by repeat (first | exact Below.refl _ _ | assumption | refine Below.drew ?_ | refine below_drewN ?_ _ | refine Below.alloc ?_ (by first | omega | (simp; done) | (simp; omega)) _ | refine Below.setCell ?_ (by first | omega | (simp; done) | (simp; omega)) _ | refine Below.trans ?_ (Below.mono (by assumption) (by first | omega | (simp; done) | (simp; omega)))))⟩

set_option maxHeartbeats 1000000 in
theorem apGood_no2 (x1 y1 x2 y2 n x3 y3 x4 y4 m : Int) (h1 : isMv x1 y1 x2 y2 n = true) (h2 : isMv x3 y3 x4 y4 m = false) (w : World) :
    Calls Try.prog 53 #[.agg #[.int .i64 x1, .int .i64 y1, .int .i64 x2, .int .i64 y2, .int .i64 n], .agg #[.int .i64 x3, .int .i64 y3, .int .i64 x4, .int .i64 y4, .int .i64 m]] w fun e w' => e = .returned (.bool (gtog x1 y1 x2 y2 n x3 y3 x4 y4 m)) ∧ Below w.heap.size w w' := by
  obtain ⟨q1, q2, q3, q4, q5, q6, q7⟩ := nadd
  have e0 := gtog_no2 h1 h2
  rw [e0]
  clear e0
  have HA := Lib.hid (fun W => mvGood_any x1 y1 x2 y2 n W)
  have HB := Lib.hid (fun W => mvGood_any x3 y3 x4 y4 m W)
  try rw [h1] at HA
  try rw [h2] at HB
  clear h1 h2
  all_goals
    go_enter Try.func53, Try.ntmps53
    go_wp2_with (first | (go_at_call 88; ((with_reducible refine (HA.out _).mono ?_); rintro e w1 ⟨rfl, hb1⟩; have hs1 := hb1.size; (try simp at hs1); (first | have hk4 := call_facts hl3 hb1 (by simp) | skip); (first | have hk3 := call_facts hl2 hb1 (by simp) | skip); (first | have hk2 := call_facts hl1 hb1 (by simp) | skip); have hk1 := call_facts (fun b h => h) hb1 (Nat.le_refl _); (first | have hl4 := hk4.1 | skip); (first | have hl3 := hk3.1 | skip); (first | have hl2 := hk2.1 | skip); have hl1 := hk1.1)) | (go_at_call 88; ((with_reducible refine (HB.out _).mono ?_); rintro e w1 ⟨rfl, hb1⟩; have hs1 := hb1.size; (try simp at hs1); (first | have hk4 := call_facts hl3 hb1 (by simp) | skip); (first | have hk3 := call_facts hl2 hb1 (by simp) | skip); (first | have hk2 := call_facts hl1 hb1 (by simp) | skip); have hk1 := call_facts (fun b h => h) hb1 (Nat.le_refl _); (first | have hl4 := hk4.1 | skip); (first | have hl3 := hk3.1 | skip); (first | have hl2 := hk2.1 | skip); have hl1 := hk1.1)))
    go_ret
    exact ⟨rfl, (by repeat (first | exact Below.refl _ _ | assumption | refine Below.drew ?_ | refine below_drewN ?_ _ | refine Below.alloc ?_ (by first | omega | (simp; done) | (simp; omega)) _ | refine Below.setCell ?_ (by first | omega | (simp; done) | (simp; omega)) _ | refine Below.trans ?_ (Below.mono (by assumption) (by first | omega | (simp; done) | (simp; omega)))))⟩

set_option maxHeartbeats 1000000 in
theorem apGood_ne (x1 y1 x2 y2 n x3 y3 x4 y4 m : Int) (h1 : isMv x1 y1 x2 y2 n = true) (h2 : isMv x3 y3 x4 y4 m = true) (h3 : ¬ n = m) (w : World) :
    Calls Try.prog 53 #[.agg #[.int .i64 x1, .int .i64 y1, .int .i64 x2, .int .i64 y2, .int .i64 n], .agg #[.int .i64 x3, .int .i64 y3, .int .i64 x4, .int .i64 y4, .int .i64 m]] w fun e w' => e = .returned (.bool (gtog x1 y1 x2 y2 n x3 y3 x4 y4 m)) ∧ Below w.heap.size w w' := by
  obtain ⟨q1, q2, q3, q4, q5, q6, q7⟩ := nadd
  have e0 := gtog_ne h1 h2 h3
  rw [e0]
  clear e0
  have HA := Lib.hid (fun W => mvGood_any x1 y1 x2 y2 n W)
  have HB := Lib.hid (fun W => mvGood_any x3 y3 x4 y4 m W)
  try rw [h1] at HA
  try rw [h2] at HB
  clear h1 h2
  have h4 : (n == m) = false := by simpa using h3
  all_goals
    go_enter Try.func53, Try.ntmps53
    go_wp2_with (first | (go_at_call 88; ((with_reducible refine (HA.out _).mono ?_); rintro e w1 ⟨rfl, hb1⟩; have hs1 := hb1.size; (try simp at hs1); (first | have hk4 := call_facts hl3 hb1 (by simp) | skip); (first | have hk3 := call_facts hl2 hb1 (by simp) | skip); (first | have hk2 := call_facts hl1 hb1 (by simp) | skip); have hk1 := call_facts (fun b h => h) hb1 (Nat.le_refl _); (first | have hl4 := hk4.1 | skip); (first | have hl3 := hk3.1 | skip); (first | have hl2 := hk2.1 | skip); have hl1 := hk1.1)) | (go_at_call 88; ((with_reducible refine (HB.out _).mono ?_); rintro e w1 ⟨rfl, hb1⟩; have hs1 := hb1.size; (try simp at hs1); (first | have hk4 := call_facts hl3 hb1 (by simp) | skip); (first | have hk3 := call_facts hl2 hb1 (by simp) | skip); (first | have hk2 := call_facts hl1 hb1 (by simp) | skip); have hk1 := call_facts (fun b h => h) hb1 (Nat.le_refl _); (first | have hl4 := hk4.1 | skip); (first | have hl3 := hk3.1 | skip); (first | have hl2 := hk2.1 | skip); have hl1 := hk1.1)))
    go_ret
    exact ⟨rfl, (by repeat (first | exact Below.refl _ _ | assumption | refine Below.drew ?_ | refine below_drewN ?_ _ | refine Below.alloc ?_ (by first | omega | (simp; done) | (simp; omega)) _ | refine Below.setCell ?_ (by first | omega | (simp; done) | (simp; omega)) _ | refine Below.trans ?_ (Below.mono (by assumption) (by first | omega | (simp; done) | (simp; omega)))))⟩

set_option maxHeartbeats 1000000 in
theorem apGood_eq (x1 y1 x2 y2 n x3 y3 x4 y4 m : Int) (h1 : isMv x1 y1 x2 y2 n = true) (h2 : isMv x3 y3 x4 y4 m = true) (h3 : n = m) (w : World) :
    Calls Try.prog 53 #[.agg #[.int .i64 x1, .int .i64 y1, .int .i64 x2, .int .i64 y2, .int .i64 n], .agg #[.int .i64 x3, .int .i64 y3, .int .i64 x4, .int .i64 y4, .int .i64 m]] w fun e w' => e = .returned (.bool (gtog x1 y1 x2 y2 n x3 y3 x4 y4 m)) ∧ Below w.heap.size w w' := by
  obtain ⟨q1, q2, q3, q4, q5, q6, q7⟩ := nadd
  have e0 := gtog_eq h1 h2 h3
  rw [e0]
  clear e0
  have HA := Lib.hid (fun W => mvGood_any x1 y1 x2 y2 n W)
  have HB := Lib.hid (fun W => mvGood_any x3 y3 x4 y4 m W)
  try rw [h1] at HA
  try rw [h2] at HB
  clear h1 h2
  subst h3
  all_goals
    go_enter Try.func53, Try.ntmps53
    go_wp2_with (first | (go_at_call 88; ((with_reducible refine (HA.out _).mono ?_); rintro e w1 ⟨rfl, hb1⟩; have hs1 := hb1.size; (try simp at hs1); (first | have hk4 := call_facts hl3 hb1 (by simp) | skip); (first | have hk3 := call_facts hl2 hb1 (by simp) | skip); (first | have hk2 := call_facts hl1 hb1 (by simp) | skip); have hk1 := call_facts (fun b h => h) hb1 (Nat.le_refl _); (first | have hl4 := hk4.1 | skip); (first | have hl3 := hk3.1 | skip); (first | have hl2 := hk2.1 | skip); have hl1 := hk1.1)) | (go_at_call 88; ((with_reducible refine (HB.out _).mono ?_); rintro e w1 ⟨rfl, hb1⟩; have hs1 := hb1.size; (try simp at hs1); (first | have hk4 := call_facts hl3 hb1 (by simp) | skip); (first | have hk3 := call_facts hl2 hb1 (by simp) | skip); (first | have hk2 := call_facts hl1 hb1 (by simp) | skip); have hk1 := call_facts (fun b h => h) hb1 (Nat.le_refl _); (first | have hl4 := hk4.1 | skip); (first | have hl3 := hk3.1 | skip); (first | have hl2 := hk2.1 | skip); have hl1 := hk1.1)))
    go_ret
    exact ⟨rfl, (by repeat (first | exact Below.refl _ _ | assumption | refine Below.drew ?_ | refine below_drewN ?_ _ | refine Below.alloc ?_ (by first | omega | (simp; done) | (simp; omega)) _ | refine Below.setCell ?_ (by first | omega | (simp; done) | (simp; omega)) _ | refine Below.trans ?_ (Below.mono (by assumption) (by first | omega | (simp; done) | (simp; omega)))))⟩

theorem apGood_any (x1 y1 x2 y2 n x3 y3 x4 y4 m : Int) (w : World) :
    Calls Try.prog 53 #[.agg #[.int .i64 x1, .int .i64 y1, .int .i64 x2, .int .i64 y2, .int .i64 n], .agg #[.int .i64 x3, .int .i64 y3, .int .i64 x4, .int .i64 y4, .int .i64 m]] w fun e w' => e = .returned (.bool (gtog x1 y1 x2 y2 n x3 y3 x4 y4 m)) ∧ Below w.heap.size w w' := by
  cases h1 : isMv x1 y1 x2 y2 n
  · exact apGood_no1 x1 y1 x2 y2 n x3 y3 x4 y4 m h1 w
  · cases h2 : isMv x3 y3 x4 y4 m
    · exact apGood_no2 x1 y1 x2 y2 n x3 y3 x4 y4 m h1 h2 w
    · by_cases h3 : n = m
      · exact apGood_eq x1 y1 x2 y2 n x3 y3 x4 y4 m h1 h2 h3 w
      · exact apGood_ne x1 y1 x2 y2 n x3 y3 x4 y4 m h1 h2 h3 w

set_option maxHeartbeats 1000000 in
theorem goTogether_no1 (x1 y1 x2 y2 n x3 y3 x4 y4 m : Int) (h1 : isMv x1 y1 x2 y2 n = false) (w : World) :
    Calls Try.prog 58 #[.agg #[.int .i64 x1, .int .i64 y1, .int .i64 x2, .int .i64 y2, .int .i64 n], .agg #[.int .i64 x3, .int .i64 y3, .int .i64 x4, .int .i64 y4, .int .i64 m]] w fun e w' => e = .returned (.bool (gtog x1 y1 x2 y2 n x3 y3 x4 y4 m)) ∧ Below w.heap.size w w' := by
  obtain ⟨q1, q2, q3, q4, q5, q6, q7⟩ := nadd
  have e0 := gtog_no1 (x3 := x3) (y3 := y3) (x4 := x4) (y4 := y4) (m := m) h1
  rw [e0]
  clear e0
  have HA := Lib.hid (fun W => isMove_any x1 y1 x2 y2 n W)
  have HB := Lib.hid (fun W => isMove_any x3 y3 x4 y4 m W)
  try rw [h1] at HA
  try rw [h2] at HB
  clear h1
  all_goals
    go_enter Try.func58, Try.ntmps58
    go_wp2_with (first | (go_at_call 90; ((with_reducible refine (HA.out _).mono ?_); rintro e w1 ⟨rfl, hb1⟩; have hs1 := hb1.size; (try simp at hs1); (first | have hk4 := call_facts hl3 hb1 (by simp) | skip); (first | have hk3 := call_facts hl2 hb1 (by simp) | skip); (first | have hk2 := call_facts hl1 hb1 (by simp) | skip); have hk1 := call_facts (fun b h => h) hb1 (Nat.le_refl _); (first | have hl4 := hk4.1 | skip); (first | have hl3 := hk3.1 | skip); (first | have hl2 := hk2.1 | skip); have hl1 := hk1.1)) | (go_at_call 90; ((with_reducible refine (HB.out _).mono ?_); rintro e w1 ⟨rfl, hb1⟩; have hs1 := hb1.size; (try simp at hs1); (first | have hk4 := call_facts hl3 hb1 (by simp) | skip); (first | have hk3 := call_facts hl2 hb1 (by simp) | skip); (first | have hk2 := call_facts hl1 hb1 (by simp) | skip); have hk1 := call_facts (fun b h => h) hb1 (Nat.le_refl _); (first | have hl4 := hk4.1 | skip); (first | have hl3 := hk3.1 | skip); (first | have hl2 := hk2.1 | skip); have hl1 := hk1.1)))
    go_ret
    exact ⟨rfl, (by repeat (first | exact Below.refl _ _ | assumption | refine Below.drew ?_ | refine below_drewN ?_ _ | refine Below.alloc ?_ (by first | omega | (simp; done) | (simp; omega)) _ | refine Below.setCell ?_ (by first | omega | (simp; done) | (simp; omega)) _ | refine Below.trans ?_ (Below.mono (by assumption) (by first | omega | (simp; done) | (simp; omega)))))⟩

set_option maxHeartbeats 1000000 in
theorem goTogether_no2 (x1 y1 x2 y2 n x3 y3 x4 y4 m : Int) (h1 : isMv x1 y1 x2 y2 n = true) (h2 : isMv x3 y3 x4 y4 m = false) (w : World) :
    Calls Try.prog 58 #[.agg #[.int .i64 x1, .int .i64 y1, .int .i64 x2, .int .i64 y2, .int .i64 n], .agg #[.int .i64 x3, .int .i64 y3, .int .i64 x4, .int .i64 y4, .int .i64 m]] w fun e w' => e = .returned (.bool (gtog x1 y1 x2 y2 n x3 y3 x4 y4 m)) ∧ Below w.heap.size w w' := by
  obtain ⟨q1, q2, q3, q4, q5, q6, q7⟩ := nadd
  have e0 := gtog_no2 h1 h2
  rw [e0]
  clear e0
  have HA := Lib.hid (fun W => isMove_any x1 y1 x2 y2 n W)
  have HB := Lib.hid (fun W => isMove_any x3 y3 x4 y4 m W)
  try rw [h1] at HA
  try rw [h2] at HB
  clear h1 h2
  all_goals
    go_enter Try.func58, Try.ntmps58
    go_wp2_with (first | (go_at_call 90; ((with_reducible refine (HA.out _).mono ?_); rintro e w1 ⟨rfl, hb1⟩; have hs1 := hb1.size; (try simp at hs1); (first | have hk4 := call_facts hl3 hb1 (by simp) | skip); (first | have hk3 := call_facts hl2 hb1 (by simp) | skip); (first | have hk2 := call_facts hl1 hb1 (by simp) | skip); have hk1 := call_facts (fun b h => h) hb1 (Nat.le_refl _); (first | have hl4 := hk4.1 | skip); (first | have hl3 := hk3.1 | skip); (first | have hl2 := hk2.1 | skip); have hl1 := hk1.1)) | (go_at_call 90; ((with_reducible refine (HB.out _).mono ?_); rintro e w1 ⟨rfl, hb1⟩; have hs1 := hb1.size; (try simp at hs1); (first | have hk4 := call_facts hl3 hb1 (by simp) | skip); (first | have hk3 := call_facts hl2 hb1 (by simp) | skip); (first | have hk2 := call_facts hl1 hb1 (by simp) | skip); have hk1 := call_facts (fun b h => h) hb1 (Nat.le_refl _); (first | have hl4 := hk4.1 | skip); (first | have hl3 := hk3.1 | skip); (first | have hl2 := hk2.1 | skip); have hl1 := hk1.1)))
    go_ret
    exact ⟨rfl, (by repeat (first | exact Below.refl _ _ | assumption | refine Below.drew ?_ | refine below_drewN ?_ _ | refine Below.alloc ?_ (by first | omega | (simp; done) | (simp; omega)) _ | refine Below.setCell ?_ (by first | omega | (simp; done) | (simp; omega)) _ | refine Below.trans ?_ (Below.mono (by assumption) (by first | omega | (simp; done) | (simp; omega)))))⟩

set_option maxHeartbeats 1000000 in
theorem goTogether_ne (x1 y1 x2 y2 n x3 y3 x4 y4 m : Int) (h1 : isMv x1 y1 x2 y2 n = true) (h2 : isMv x3 y3 x4 y4 m = true) (h3 : ¬ n = m) (w : World) :
    Calls Try.prog 58 #[.agg #[.int .i64 x1, .int .i64 y1, .int .i64 x2, .int .i64 y2, .int .i64 n], .agg #[.int .i64 x3, .int .i64 y3, .int .i64 x4, .int .i64 y4, .int .i64 m]] w fun e w' => e = .returned (.bool (gtog x1 y1 x2 y2 n x3 y3 x4 y4 m)) ∧ Below w.heap.size w w' := by
  obtain ⟨q1, q2, q3, q4, q5, q6, q7⟩ := nadd
  have e0 := gtog_ne h1 h2 h3
  rw [e0]
  clear e0
  have HA := Lib.hid (fun W => isMove_any x1 y1 x2 y2 n W)
  have HB := Lib.hid (fun W => isMove_any x3 y3 x4 y4 m W)
  try rw [h1] at HA
  try rw [h2] at HB
  clear h1 h2
  have h4 : (n == m) = false := by simpa using h3
  all_goals
    go_enter Try.func58, Try.ntmps58
    go_wp2_with (first | (go_at_call 90; ((with_reducible refine (HA.out _).mono ?_); rintro e w1 ⟨rfl, hb1⟩; have hs1 := hb1.size; (try simp at hs1); (first | have hk4 := call_facts hl3 hb1 (by simp) | skip); (first | have hk3 := call_facts hl2 hb1 (by simp) | skip); (first | have hk2 := call_facts hl1 hb1 (by simp) | skip); have hk1 := call_facts (fun b h => h) hb1 (Nat.le_refl _); (first | have hl4 := hk4.1 | skip); (first | have hl3 := hk3.1 | skip); (first | have hl2 := hk2.1 | skip); have hl1 := hk1.1)) | (go_at_call 90; ((with_reducible refine (HB.out _).mono ?_); rintro e w1 ⟨rfl, hb1⟩; have hs1 := hb1.size; (try simp at hs1); (first | have hk4 := call_facts hl3 hb1 (by simp) | skip); (first | have hk3 := call_facts hl2 hb1 (by simp) | skip); (first | have hk2 := call_facts hl1 hb1 (by simp) | skip); have hk1 := call_facts (fun b h => h) hb1 (Nat.le_refl _); (first | have hl4 := hk4.1 | skip); (first | have hl3 := hk3.1 | skip); (first | have hl2 := hk2.1 | skip); have hl1 := hk1.1)))
    go_ret
    exact ⟨rfl, (by repeat (first | exact Below.refl _ _ | assumption | refine Below.drew ?_ | refine below_drewN ?_ _ | refine Below.alloc ?_ (by first | omega | (simp; done) | (simp; omega)) _ | refine Below.setCell ?_ (by first | omega | (simp; done) | (simp; omega)) _ | refine Below.trans ?_ (Below.mono (by assumption) (by first | omega | (simp; done) | (simp; omega)))))⟩

set_option maxHeartbeats 1000000 in
theorem goTogether_eq (x1 y1 x2 y2 n x3 y3 x4 y4 m : Int) (h1 : isMv x1 y1 x2 y2 n = true) (h2 : isMv x3 y3 x4 y4 m = true) (h3 : n = m) (w : World) :
    Calls Try.prog 58 #[.agg #[.int .i64 x1, .int .i64 y1, .int .i64 x2, .int .i64 y2, .int .i64 n], .agg #[.int .i64 x3, .int .i64 y3, .int .i64 x4, .int .i64 y4, .int .i64 m]] w fun e w' => e = .returned (.bool (gtog x1 y1 x2 y2 n x3 y3 x4 y4 m)) ∧ Below w.heap.size w w' := by
  obtain ⟨q1, q2, q3, q4, q5, q6, q7⟩ := nadd
  have e0 := gtog_eq h1 h2 h3
  rw [e0]
  clear e0
  have HA := Lib.hid (fun W => isMove_any x1 y1 x2 y2 n W)
  have HB := Lib.hid (fun W => isMove_any x3 y3 x4 y4 m W)
  try rw [h1] at HA
  try rw [h2] at HB
  clear h1 h2
  subst h3
  all_goals
    go_enter Try.func58, Try.ntmps58
    go_wp2_with (first | (go_at_call 90; ((with_reducible refine (HA.out _).mono ?_); rintro e w1 ⟨rfl, hb1⟩; have hs1 := hb1.size; (try simp at hs1); (first | have hk4 := call_facts hl3 hb1 (by simp) | skip); (first | have hk3 := call_facts hl2 hb1 (by simp) | skip); (first | have hk2 := call_facts hl1 hb1 (by simp) | skip); have hk1 := call_facts (fun b h => h) hb1 (Nat.le_refl _); (first | have hl4 := hk4.1 | skip); (first | have hl3 := hk3.1 | skip); (first | have hl2 := hk2.1 | skip); have hl1 := hk1.1)) | (go_at_call 90; ((with_reducible refine (HB.out _).mono ?_); rintro e w1 ⟨rfl, hb1⟩; have hs1 := hb1.size; (try simp at hs1); (first | have hk4 := call_facts hl3 hb1 (by simp) | skip); (first | have hk3 := call_facts hl2 hb1 (by simp) | skip); (first | have hk2 := call_facts hl1 hb1 (by simp) | skip); have hk1 := call_facts (fun b h => h) hb1 (Nat.le_refl _); (first | have hl4 := hk4.1 | skip); (first | have hl3 := hk3.1 | skip); (first | have hl2 := hk2.1 | skip); have hl1 := hk1.1)))
    go_ret
    exact ⟨rfl, (by repeat (first | exact Below.refl _ _ | assumption | refine Below.drew ?_ | refine below_drewN ?_ _ | refine Below.alloc ?_ (by first | omega | (simp; done) | (simp; omega)) _ | refine Below.setCell ?_ (by first | omega | (simp; done) | (simp; omega)) _ | refine Below.trans ?_ (Below.mono (by assumption) (by first | omega | (simp; done) | (simp; omega)))))⟩

theorem goTogether_any (x1 y1 x2 y2 n x3 y3 x4 y4 m : Int) (w : World) :
    Calls Try.prog 58 #[.agg #[.int .i64 x1, .int .i64 y1, .int .i64 x2, .int .i64 y2, .int .i64 n], .agg #[.int .i64 x3, .int .i64 y3, .int .i64 x4, .int .i64 y4, .int .i64 m]] w fun e w' => e = .returned (.bool (gtog x1 y1 x2 y2 n x3 y3 x4 y4 m)) ∧ Below w.heap.size w w' := by
  cases h1 : isMv x1 y1 x2 y2 n
  · exact goTogether_no1 x1 y1 x2 y2 n x3 y3 x4 y4 m h1 w
  · cases h2 : isMv x3 y3 x4 y4 m
    · exact goTogether_no2 x1 y1 x2 y2 n x3 y3 x4 y4 m h1 h2 w
    · by_cases h3 : n = m
      · exact goTogether_eq x1 y1 x2 y2 n x3 y3 x4 y4 m h1 h2 h3 w
      · exact goTogether_ne x1 y1 x2 y2 n x3 y3 x4 y4 m h1 h2 h3 w

set_option maxHeartbeats 400000 in
theorem apDistance_any (k : Int) (w : World) :
    Calls Try.prog 67 #[.int .i64 k] w fun e w' => e = .returned (.bool (inB 0 k 80)) ∧ w = w' := by
  skip
  all_goals
    go_enter Try.func67, Try.ntmps67
    go_wp2_with (first | (go_at_call 54; (refine (l1In_any _ _ _ _).mono ?_; rintro e w' ⟨rfl, rfl⟩)))
    go_ret
    exact ⟨rfl, rfl⟩

set_option maxHeartbeats 400000 in
theorem isLeast_any (k : Int) (w : World) :
    Calls Try.prog 69 #[.int .i64 k] w fun e w' => e = .returned (.bool (inB 0 k 80)) ∧ w = w' := by
  skip
  all_goals
    go_enter Try.func69, Try.ntmps69
    go_wp2_with (first | (go_at_call 59; (refine (inRange_any _ _ _ _).mono ?_; rintro e w' ⟨rfl, rfl⟩)))
    go_ret
    exact ⟨rfl, rfl⟩

end Go.Proofs.Ytjojjmmdgldcbaa
