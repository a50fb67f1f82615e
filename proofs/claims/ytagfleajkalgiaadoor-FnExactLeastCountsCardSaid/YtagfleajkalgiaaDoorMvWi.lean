/- Steps that suffice, least counts, both sides. Conditions: the table of squares, and those written in each theorem. -/
import Derived.Test.YtagfleajkalgiaaDoorMv
import Derived.Deep.RegionHeld3
import Derived.Deep.DrawnRows
import Derived.Deep.DeepCutAuto
import Derived.IntWalk
import Derived.Lib.AppendIntMem
import Derived.Lib.LaidTab
import Derived.Lib.QuietBelow
namespace Go.Proofs.YtagfleajkalgiaaDoor
open Go.RowKit Go.Sort


attribute [local go_sem ↓] Go.wp_at_zero Go.wp_at_succ

/-- The squares of the steps lie in the table. -/
def SqAt (w : World) : Prop := ∀ i : Nat, i ≤ 24 → w.cell? ⟨0, i, none⟩ = some (.int .i64 ((i : Int) * i))
theorem SqAt.below {w w' : World} (h : SqAt w) (hb : Below w.heap.size w w') : SqAt w' := fun i hi => (hb.cell (World.block_lt_of_cell? w _ (h i hi))).trans (h i hi)
/-- How far (squared) steps of size s lead in n counts. -/
def wiR (s n : Int) : Int := s * s * n * n
theorem wi_facts {s n : Int} (s0 : 1 ≤ s) (s1 : s ≤ 24) (n0 : 0 ≤ n) (n1 : n ≤ 64) : ∃ q p : Int, s * s = q ∧ IntKind.i64.wrap (s * s) = q ∧ IntKind.i64.wrap (q * n) = p ∧ IntKind.i64.wrap (p * n) = wiR s n := by
  have a := sq_bound (a := s) (m := 24) (by omega) s1
  have b : 0 ≤ s * s * n ∧ s * s * n ≤ 576 * 64 := ⟨Int.mul_nonneg a.1 n0, Int.le_trans (Int.mul_le_mul_of_nonneg_right a.2 n0) (by omega)⟩
  have c : 0 ≤ s * s * n * n ∧ s * s * n * n ≤ 576 * 64 * 64 := ⟨Int.mul_nonneg b.1 n0, Int.le_trans (Int.mul_le_mul_of_nonneg_right b.2 n0) (by omega)⟩
  unfold wiR
  refine ⟨s * s, s * s * n, rfl, ?_, ?_, ?_⟩
  all_goals exact IntWalk.i64_in _ (by omega)

set_option maxHeartbeats 400000 in
theorem mvStep_any (s : Int) (w : World) :
    Calls Tryd.prog 15 #[.int .i64 s] w fun e w' => e = .returned (.bool (inB 1 s 24)) ∧ w = w' := by
  skip
  all_goals
    go_enter Tryd.func15, Tryd.ntmps15
    go_wp2_with (first | (go_at_call 28; (refine (l1In_any _ _ _ _).mono ?_; rintro e w' ⟨rfl, rfl⟩)))
    go_ret
    exact ⟨rfl, rfl⟩

set_option maxHeartbeats 400000 in
theorem isStep_any (s : Int) (w : World) :
    Calls Tryd.prog 18 #[.int .i64 s] w fun e w' => e = .returned (.bool (inB 1 s 24)) ∧ w = w' := by
  skip
  all_goals
    go_enter Tryd.func18, Tryd.ntmps18
    go_wp2_with (first | (go_at_call 30; (refine (inRange_any _ _ _ _).mono ?_; rintro e w' ⟨rfl, rfl⟩)))
    go_ret
    exact ⟨rfl, rfl⟩

set_option maxHeartbeats 1000000 in
theorem done_any (sq : Int) (s : Nat) (k : Int) (s0 : 1 ≤ s) (s1 : s ≤ 24) (k0 : 0 ≤ k) (k1 : k ≤ 64) (w : World) (ht : SqAt w) :
    Calls Tryd.prog 20 #[.agg #[.int .i64 sq, .int .i64 (s : Int)], .int .i64 k] w fun e w' => e = .returned (.bool (decide (sq ≤ wiR s k))) ∧ Below w.heap.size w w' := by
  obtain ⟨q, p, e1, _, e3, e4⟩ := wi_facts (s := (s : Int)) (n := k) (by omega) (by omega) k0 k1
  have c0 := ht s s1
  rw [e1] at c0
  have lt := World.block_lt_of_cell? w _ c0
  have ne : ¬ 0 = w.heap.size := by
    intro e
    have : 0 < w.heap.size := lt
    omega
  have i0 : (0 : Int) ≤ (s : Int) := by omega
  have i1 : (s : Int) < 25 := by omega
  have i2 : ((s : Int)).toNat = s := by omega
  obtain ⟨r, hr⟩ : ∃ r, r = wiR (s : Int) k := ⟨_, rfl⟩
  rw [← hr] at e4 ⊢
  clear hr e1 s0 s1 k0 k1
  by_cases hd : sq ≤ r
  all_goals
    go_enter Tryd.func20, Tryd.ntmps20
    go_wp2
    go_quiet (fail)
    go_wp2
    go_ret
    exact ⟨by simp [hd], (by repeat (first | exact Below.refl _ _ | assumption | refine Below.drew ?_ | refine below_drewN ?_ _ | refine Below.alloc ?_ (by first | omega | (simp; done) | (simp; omega)) _ | refine Below.setCell ?_ (by first | omega | (simp; done) | (simp; omega)) _ | refine Below.trans ?_ (Below.mono (by assumption) (by first | omega | (simp; done) | (simp; omega)))))⟩

set_option maxHeartbeats 1000000 in
theorem mvWithin_any (x1 y1 x2 y2 n : Int) (s : Int) (h1 : onField x1 y1 = true) (h2 : onField x2 y2 = true) (s0 : 1 ≤ s) (s1 : s ≤ 24) (n0 : 0 ≤ n) (n1 : n ≤ 64) (w : World) :
    Calls Tryd.prog 16 #[.agg #[.int .i64 x1, .int .i64 y1, .int .i64 x2, .int .i64 y2, .int .i64 n], .int .i64 s] w fun e w' => e = .returned (.bool (decide (sqr x1 y1 x2 y2 ≤ wiR s n))) ∧ Below w.heap.size w w' := by
  obtain ⟨q, p, e1, e2, e3, e4⟩ := wi_facts (s := s) (n := n) s0 s1 n0 n1
  have HSQ := Lib.hid (fun W => stSquare_any x1 y1 x2 y2 h1 h2 W)
  obtain ⟨sq, hsq⟩ : ∃ sq, sq = sqr x1 y1 x2 y2 := ⟨_, rfl⟩
  rw [← hsq] at HSQ ⊢
  obtain ⟨r, hr⟩ : ∃ r, r = wiR s n := ⟨_, rfl⟩
  rw [← hr] at e4 ⊢
  clear hr e1 s0 s1 n0 n1 h1 h2 hsq
  by_cases hd : sq ≤ r
  all_goals
    go_enter Tryd.func16, Tryd.ntmps16
    go_upto_region 1 with fail
    obtain ⟨W, hW⟩ : ∃ W, W = w.alloc (.cells #[.int .i64 x1, .int .i64 y1, .int .i64 x2, .int .i64 y2, .int .i64 n] 30) := ⟨_, rfl⟩
    rw [← hW]
    have c0 : W.cell? ⟨w.heap.size, 0, none⟩ = some (.int .i64 x1) := by rw [hW]; go_simp
    have c1 : W.cell? ⟨w.heap.size, 1, none⟩ = some (.int .i64 y1) := by rw [hW]; go_simp
    have c2 : W.cell? ⟨w.heap.size, 2, none⟩ = some (.int .i64 x2) := by rw [hW]; go_simp
    have c3 : W.cell? ⟨w.heap.size, 3, none⟩ = some (.int .i64 y2) := by rw [hW]; go_simp
    have c4 : W.cell? ⟨w.heap.size, 4, none⟩ = some (.int .i64 n) := by rw [hW]; go_simp
    have hWb : Below w.heap.size w W := by rw [hW]; exact (by repeat (first | exact Below.refl _ _ | assumption | refine Below.drew ?_ | refine below_drewN ?_ _ | refine Below.alloc ?_ (by first | omega | (simp; done) | (simp; omega)) _ | refine Below.setCell ?_ (by first | omega | (simp; done) | (simp; omega)) _ | refine Below.trans ?_ (Below.mono (by assumption) (by first | omega | (simp; done) | (simp; omega)))))
    have hWs : W.heap.size = w.heap.size + 1 := by rw [hW]; simp
    clear hW
    have rgc0 := fun d os => cell_regrown c0 d os
    have rgc1 := fun d os => cell_regrown c1 d os
    have rgc2 := fun d os => cell_regrown c2 d os
    have rgc3 := fun d os => cell_regrown c3 d os
    have rgc4 := fun d os => cell_regrown c4 d os
    refine wp_region_quiet_below (by kernel_rfl) (by kernel_rfl) ?_
    repeat (quiet_step (first | (with_reducible exact Calls.regrown_of (HSQ.out _))))
    refine wpQuiet_nil ?_
    intro _ hw'
    obtain ⟨⟨dq, osq⟩, hw''⟩ := hw'
    subst hw''
    have hq := below_regrown W dq osq
    generalize grow (redrawn W dq) osq = W2 at hq ⊢
    have hB2 : Below w.heap.size w W2 := hWb.trans (hq.mono (by omega))
    go_wp2
    go_ret
    exact ⟨by simp [hd], hB2⟩

def wiOk (x1 y1 x2 y2 n s : Int) : Bool := isMv x1 y1 x2 y2 n && inB 1 s 24
theorem wiOk_no {x1 y1 x2 y2 n s : Int} (h : isMv x1 y1 x2 y2 n = false) : wiOk x1 y1 x2 y2 n s = false := by simp [wiOk, h]
theorem wiOk_yes {x1 y1 x2 y2 n s : Int} {c : Bool} (h : isMv x1 y1 x2 y2 n = true) (h3 : inB 1 s 24 = c) : wiOk x1 y1 x2 y2 n s = c := by simp [wiOk, h, h3]

set_option maxHeartbeats 1000000 in
theorem specWithinStep_no (x1 y1 x2 y2 n : Int) (s : Int) (h1 : isMv x1 y1 x2 y2 n = false) (w : World) :
    Calls Tryd.prog 6 #[.agg #[.int .i64 x1, .int .i64 y1, .int .i64 x2, .int .i64 y2, .int .i64 n], .int .i64 s] w fun e w' => e = .returned (.tuple #[.bool ((wiOk x1 y1 x2 y2 n s) && (decide (sqr x1 y1 x2 y2 ≤ wiR s n))), .bool (wiOk x1 y1 x2 y2 n s)]) ∧ Below w.heap.size w w' := by
  obtain ⟨q1, q2, q3, q4, q5, q6, q7⟩ := nadd
  have HM := Lib.hid (fun W => mvGood_any x1 y1 x2 y2 n W)
  rw [h1] at HM
  rw [wiOk_no h1]
  clear h1
  go_enter Tryd.func6, Tryd.ntmps6
  go_wp2_with (first | (go_at_call 14; ((with_reducible refine (HM.out _).mono ?_); rintro e w1 ⟨rfl, hb1⟩; have hs1 := hb1.size; (try simp at hs1); (first | have hk4 := call_facts hl3 hb1 (by simp) | skip); (first | have hk3 := call_facts hl2 hb1 (by simp) | skip); (first | have hk2 := call_facts hl1 hb1 (by simp) | skip); have hk1 := call_facts (fun b h => h) hb1 (Nat.le_refl _); (first | have hl4 := hk4.1 | skip); (first | have hl3 := hk3.1 | skip); (first | have hl2 := hk2.1 | skip); have hl1 := hk1.1)))
  first | exact bodyPost_ret (v := .tuple #[.bool false, .bool false]) (by simp [results, Tryd.results6, go_sem, *]) rfl ⟨rfl, (by repeat (first | exact Below.refl _ _ | assumption | refine Below.drew ?_ | refine below_drewN ?_ _ | refine Below.alloc ?_ (by first | omega | (simp; done) | (simp; omega)) _ | refine Below.setCell ?_ (by first | omega | (simp; done) | (simp; omega)) _ | refine Below.trans ?_ (Below.mono (by assumption) (by first | omega | (simp; done) | (simp; omega)))))⟩

set_option maxHeartbeats 1000000 in
theorem specWithinStep_out (x1 y1 x2 y2 n : Int) (s : Int) (h1 : isMv x1 y1 x2 y2 n = true) (h2 : inB 1 s 24 = false) (w : World) :
    Calls Tryd.prog 6 #[.agg #[.int .i64 x1, .int .i64 y1, .int .i64 x2, .int .i64 y2, .int .i64 n], .int .i64 s] w fun e w' => e = .returned (.tuple #[.bool ((wiOk x1 y1 x2 y2 n s) && (decide (sqr x1 y1 x2 y2 ≤ wiR s n))), .bool (wiOk x1 y1 x2 y2 n s)]) ∧ Below w.heap.size w w' := by
  obtain ⟨q1, q2, q3, q4, q5, q6, q7⟩ := nadd
  have HM := Lib.hid (fun W => mvGood_any x1 y1 x2 y2 n W)
  rw [h1] at HM
  rw [wiOk_yes h1 h2]
  clear h1
  go_enter Tryd.func6, Tryd.ntmps6
  go_wp2_with (first | (go_at_call 14; ((with_reducible refine (HM.out _).mono ?_); rintro e w1 ⟨rfl, hb1⟩; have hs1 := hb1.size; (try simp at hs1); (first | have hk4 := call_facts hl3 hb1 (by simp) | skip); (first | have hk3 := call_facts hl2 hb1 (by simp) | skip); (first | have hk2 := call_facts hl1 hb1 (by simp) | skip); have hk1 := call_facts (fun b h => h) hb1 (Nat.le_refl _); (first | have hl4 := hk4.1 | skip); (first | have hl3 := hk3.1 | skip); (first | have hl2 := hk2.1 | skip); have hl1 := hk1.1)) | (go_at_call 15; (refine (mvStep_any _ _).mono ?_; rintro e w' ⟨rfl, rfl⟩)))
  first | exact bodyPost_ret (v := .tuple #[.bool false, .bool false]) (by simp [results, Tryd.results6, go_sem, *]) rfl ⟨rfl, (by repeat (first | exact Below.refl _ _ | assumption | refine Below.drew ?_ | refine below_drewN ?_ _ | refine Below.alloc ?_ (by first | omega | (simp; done) | (simp; omega)) _ | refine Below.setCell ?_ (by first | omega | (simp; done) | (simp; omega)) _ | refine Below.trans ?_ (Below.mono (by assumption) (by first | omega | (simp; done) | (simp; omega)))))⟩

set_option maxHeartbeats 1000000 in
theorem specWithinStep_yes (x1 y1 x2 y2 n : Int) (s : Int) (h1 : isMv x1 y1 x2 y2 n = true) (h2 : inB 1 s 24 = true) (w : World) :
    Calls Tryd.prog 6 #[.agg #[.int .i64 x1, .int .i64 y1, .int .i64 x2, .int .i64 y2, .int .i64 n], .int .i64 s] w fun e w' => e = .returned (.tuple #[.bool ((wiOk x1 y1 x2 y2 n s) && (decide (sqr x1 y1 x2 y2 ≤ wiR s n))), .bool (wiOk x1 y1 x2 y2 n s)]) ∧ Below w.heap.size w w' := by
  obtain ⟨q1, q2, q3, q4, q5, q6, q7⟩ := nadd
  have HM := Lib.hid (fun W => mvGood_any x1 y1 x2 y2 n W)
  rw [h1] at HM
  rw [wiOk_yes h1 h2]
  obtain ⟨g1, g2, g3, g4⟩ := isMv_iff.1 h1
  obtain ⟨s0, s1⟩ := inB_iff.1 h2
  have HW := Lib.hid (fun W => mvWithin_any x1 y1 x2 y2 n s g1 g2 s0 s1 (by omega) g4 W)
  obtain ⟨d, hd⟩ : ∃ d, d = (decide (sqr x1 y1 x2 y2 ≤ wiR s n)) := ⟨_, rfl⟩
  rw [← hd] at HW ⊢
  rw [Bool.true_and]
  clear hd h1 g1 g2 g3 g4 s0 s1
  go_enter Tryd.func6, Tryd.ntmps6
  go_wp2_with (first | (go_at_call 14; ((with_reducible refine (HM.out _).mono ?_); rintro e w1 ⟨rfl, hb1⟩; have hs1 := hb1.size; (try simp at hs1); (first | have hk4 := call_facts hl3 hb1 (by simp) | skip); (first | have hk3 := call_facts hl2 hb1 (by simp) | skip); (first | have hk2 := call_facts hl1 hb1 (by simp) | skip); have hk1 := call_facts (fun b h => h) hb1 (Nat.le_refl _); (first | have hl4 := hk4.1 | skip); (first | have hl3 := hk3.1 | skip); (first | have hl2 := hk2.1 | skip); have hl1 := hk1.1)) | (go_at_call 15; (refine (mvStep_any _ _).mono ?_; rintro e w' ⟨rfl, rfl⟩)) | (go_at_call 16; ((with_reducible refine (HW.out _).mono ?_); rintro e w1 ⟨rfl, hb1⟩; have hs1 := hb1.size; (try simp at hs1); (first | have hk4 := call_facts hl3 hb1 (by simp) | skip); (first | have hk3 := call_facts hl2 hb1 (by simp) | skip); (first | have hk2 := call_facts hl1 hb1 (by simp) | skip); have hk1 := call_facts (fun b h => h) hb1 (Nat.le_refl _); (first | have hl4 := hk4.1 | skip); (first | have hl3 := hk3.1 | skip); (first | have hl2 := hk2.1 | skip); have hl1 := hk1.1)))
  first | exact bodyPost_ret (v := .tuple #[.bool d, .bool true]) (by simp [results, Tryd.results6, go_sem, *]) rfl ⟨rfl, (by repeat (first | exact Below.refl _ _ | assumption | refine Below.drew ?_ | refine below_drewN ?_ _ | refine Below.alloc ?_ (by first | omega | (simp; done) | (simp; omega)) _ | refine Below.setCell ?_ (by first | omega | (simp; done) | (simp; omega)) _ | refine Below.trans ?_ (Below.mono (by assumption) (by first | omega | (simp; done) | (simp; omega)))))⟩

theorem specWithinStep_any (x1 y1 x2 y2 n : Int) (s : Int) (w : World) :
    Calls Tryd.prog 6 #[.agg #[.int .i64 x1, .int .i64 y1, .int .i64 x2, .int .i64 y2, .int .i64 n], .int .i64 s] w fun e w' => e = .returned (.tuple #[.bool ((wiOk x1 y1 x2 y2 n s) && (decide (sqr x1 y1 x2 y2 ≤ wiR s n))), .bool (wiOk x1 y1 x2 y2 n s)]) ∧ Below w.heap.size w w' := by
  cases h1 : isMv x1 y1 x2 y2 n
  · exact specWithinStep_no x1 y1 x2 y2 n s h1 w
  · cases h2 : inB 1 s 24
    · exact specWithinStep_out x1 y1 x2 y2 n s h1 h2 w
    · exact specWithinStep_yes x1 y1 x2 y2 n s h1 h2 w

set_option maxHeartbeats 1000000 in
theorem withinStep_no (x1 y1 x2 y2 n : Int) (s : Int) (h1 : isMv x1 y1 x2 y2 n = false) (w : World) :
    Calls Tryd.prog 8 #[.agg #[.int .i64 x1, .int .i64 y1, .int .i64 x2, .int .i64 y2, .int .i64 n], .int .i64 s] w fun e w' => e = .returned (.tuple #[.bool ((wiOk x1 y1 x2 y2 n s) && (decide (sqr x1 y1 x2 y2 ≤ wiR s n))), .bool (wiOk x1 y1 x2 y2 n s)]) ∧ Below w.heap.size w w' := by
  obtain ⟨q1, q2, q3, q4, q5, q6, q7⟩ := nadd
  have HM := Lib.hid (fun W => isMove_any x1 y1 x2 y2 n W)
  rw [h1] at HM
  rw [wiOk_no h1]
  clear h1
  go_enter Tryd.func8, Tryd.ntmps8
  go_wp2_with (first | (go_at_call 17; ((with_reducible refine (HM.out _).mono ?_); rintro e w1 ⟨rfl, hb1⟩; have hs1 := hb1.size; (try simp at hs1); (first | have hk4 := call_facts hl3 hb1 (by simp) | skip); (first | have hk3 := call_facts hl2 hb1 (by simp) | skip); (first | have hk2 := call_facts hl1 hb1 (by simp) | skip); have hk1 := call_facts (fun b h => h) hb1 (Nat.le_refl _); (first | have hl4 := hk4.1 | skip); (first | have hl3 := hk3.1 | skip); (first | have hl2 := hk2.1 | skip); have hl1 := hk1.1)))
  first | exact bodyPost_ret (v := .tuple #[.bool false, .bool false]) (by simp [results, Tryd.results8, go_sem, *]) rfl ⟨rfl, (by repeat (first | exact Below.refl _ _ | assumption | refine Below.drew ?_ | refine below_drewN ?_ _ | refine Below.alloc ?_ (by first | omega | (simp; done) | (simp; omega)) _ | refine Below.setCell ?_ (by first | omega | (simp; done) | (simp; omega)) _ | refine Below.trans ?_ (Below.mono (by assumption) (by first | omega | (simp; done) | (simp; omega)))))⟩

set_option maxHeartbeats 1000000 in
theorem withinStep_out (x1 y1 x2 y2 n : Int) (s : Int) (h1 : isMv x1 y1 x2 y2 n = true) (h2 : inB 1 s 24 = false) (w : World) :
    Calls Tryd.prog 8 #[.agg #[.int .i64 x1, .int .i64 y1, .int .i64 x2, .int .i64 y2, .int .i64 n], .int .i64 s] w fun e w' => e = .returned (.tuple #[.bool ((wiOk x1 y1 x2 y2 n s) && (decide (sqr x1 y1 x2 y2 ≤ wiR s n))), .bool (wiOk x1 y1 x2 y2 n s)]) ∧ Below w.heap.size w w' := by
  obtain ⟨q1, q2, q3, q4, q5, q6, q7⟩ := nadd
  have HM := Lib.hid (fun W => isMove_any x1 y1 x2 y2 n W)
  rw [h1] at HM
  rw [wiOk_yes h1 h2]
  clear h1
  go_enter Tryd.func8, Tryd.ntmps8
  go_wp2_with (first | (go_at_call 17; ((with_reducible refine (HM.out _).mono ?_); rintro e w1 ⟨rfl, hb1⟩; have hs1 := hb1.size; (try simp at hs1); (first | have hk4 := call_facts hl3 hb1 (by simp) | skip); (first | have hk3 := call_facts hl2 hb1 (by simp) | skip); (first | have hk2 := call_facts hl1 hb1 (by simp) | skip); have hk1 := call_facts (fun b h => h) hb1 (Nat.le_refl _); (first | have hl4 := hk4.1 | skip); (first | have hl3 := hk3.1 | skip); (first | have hl2 := hk2.1 | skip); have hl1 := hk1.1)) | (go_at_call 18; (refine (isStep_any _ _).mono ?_; rintro e w' ⟨rfl, rfl⟩)))
  first | exact bodyPost_ret (v := .tuple #[.bool false, .bool false]) (by simp [results, Tryd.results8, go_sem, *]) rfl ⟨rfl, (by repeat (first | exact Below.refl _ _ | assumption | refine Below.drew ?_ | refine below_drewN ?_ _ | refine Below.alloc ?_ (by first | omega | (simp; done) | (simp; omega)) _ | refine Below.setCell ?_ (by first | omega | (simp; done) | (simp; omega)) _ | refine Below.trans ?_ (Below.mono (by assumption) (by first | omega | (simp; done) | (simp; omega)))))⟩

set_option maxHeartbeats 1000000 in
theorem strideOf_any (x1 y1 x2 y2 s : Int) (h1 : onField x1 y1 = true) (h2 : onField x2 y2 = true) (w : World) :
    Calls Tryd.prog 19 #[.agg #[.int .i64 x1, .int .i64 y1], .agg #[.int .i64 x2, .int .i64 y2], .int .i64 s] w fun e w' => e = .returned (.agg #[.int .i64 (sqr x1 y1 x2 y2), .int .i64 s]) ∧ Below w.heap.size w w' := by
  obtain ⟨q1, q2, q3, q4, q5, q6, q7⟩ := nadd
  have HSQ := Lib.hid (fun W => squareBetween_any x1 y1 x2 y2 h1 h2 W)
  obtain ⟨sq, hsq⟩ : ∃ sq, sq = sqr x1 y1 x2 y2 := ⟨_, rfl⟩
  rw [← hsq] at HSQ ⊢
  clear hsq h1 h2
  go_enter Tryd.func19, Tryd.ntmps19
  go_wp2_with (first | (go_at_call 31; ((with_reducible refine (HSQ.out _).mono ?_); rintro e w1 ⟨rfl, hb1⟩; have hs1 := hb1.size; (try simp at hs1); (first | have hk4 := call_facts hl3 hb1 (by simp) | skip); (first | have hk3 := call_facts hl2 hb1 (by simp) | skip); (first | have hk2 := call_facts hl1 hb1 (by simp) | skip); have hk1 := call_facts (fun b h => h) hb1 (Nat.le_refl _); (first | have hl4 := hk4.1 | skip); (first | have hl3 := hk3.1 | skip); (first | have hl2 := hk2.1 | skip); have hl1 := hk1.1)))
  first | exact bodyPost_ret (v := .agg #[.int .i64 sq, .int .i64 s]) (by simp [results, Tryd.results19, go_sem, *]) rfl ⟨rfl, (by repeat (first | exact Below.refl _ _ | assumption | refine Below.drew ?_ | refine below_drewN ?_ _ | refine Below.alloc ?_ (by first | omega | (simp; done) | (simp; omega)) _ | refine Below.setCell ?_ (by first | omega | (simp; done) | (simp; omega)) _ | refine Below.trans ?_ (Below.mono (by assumption) (by first | omega | (simp; done) | (simp; omega)))))⟩

set_option maxHeartbeats 1000000 in
theorem withinStep_yes (x1 y1 x2 y2 n : Int) (s : Int) (h1 : isMv x1 y1 x2 y2 n = true) (h2 : inB 1 s 24 = true) (w : World) (ht : SqAt w) :
    Calls Tryd.prog 8 #[.agg #[.int .i64 x1, .int .i64 y1, .int .i64 x2, .int .i64 y2, .int .i64 n], .int .i64 s] w fun e w' => e = .returned (.tuple #[.bool ((wiOk x1 y1 x2 y2 n s) && (decide (sqr x1 y1 x2 y2 ≤ wiR s n))), .bool (wiOk x1 y1 x2 y2 n s)]) ∧ Below w.heap.size w w' := by
  obtain ⟨q1, q2, q3, q4, q5, q6, q7⟩ := nadd
  have HM := Lib.hid (fun W => isMove_any x1 y1 x2 y2 n W)
  rw [h1] at HM
  rw [wiOk_yes h1 h2]
  obtain ⟨g1, g2, g3, g4⟩ := isMv_iff.1 h1
  obtain ⟨s0, s1⟩ := inB_iff.1 h2
  obtain ⟨S, rfl⟩ : ∃ S : Nat, s = (S : Int) := ⟨s.toNat, by omega⟩
  have HSO := Lib.hid (fun W => strideOf_any x1 y1 x2 y2 (S : Int) g1 g2 W)
  have HD := Lib.hid (fun W (h : SqAt W) => done_any (sqr x1 y1 x2 y2) S n (by omega) (by omega) (by omega) g4 W h)
  obtain ⟨d, hd⟩ : ∃ d, d = (decide (sqr x1 y1 x2 y2 ≤ wiR (S : Int) n)) := ⟨_, rfl⟩
  rw [← hd] at HD ⊢
  obtain ⟨sq, hsq⟩ : ∃ sq, sq = sqr x1 y1 x2 y2 := ⟨_, rfl⟩
  rw [← hsq] at HD HSO
  rw [Bool.true_and]
  have HT := Lib.hid ht
  clear hd hsq h1 g1 g2 g3 g4 s0 s1 ht
  go_enter Tryd.func8, Tryd.ntmps8
  go_upto_region 3 with (first | (go_at_call 17; ((with_reducible refine (HM.out _).mono ?_); rintro e w1 ⟨rfl, hb1⟩; have hs1 := hb1.size; (try simp at hs1); (first | have hk4 := call_facts hl3 hb1 (by simp) | skip); (first | have hk3 := call_facts hl2 hb1 (by simp) | skip); (first | have hk2 := call_facts hl1 hb1 (by simp) | skip); have hk1 := call_facts (fun b h => h) hb1 (Nat.le_refl _); (first | have hl4 := hk4.1 | skip); (first | have hl3 := hk3.1 | skip); (first | have hl2 := hk2.1 | skip); have hl1 := hk1.1)) | (go_at_call 18; (refine (isStep_any _ _).mono ?_; rintro e w' ⟨rfl, rfl⟩)))
  have c0 : w1.cell? ⟨w.heap.size, 0, none⟩ = some (.int .i64 x1) := (hb1.cell (p := ⟨w.heap.size, 0, none⟩) (by first | omega | (simp; done) | (simp; omega))).trans (by go_simp)
  have c1 : w1.cell? ⟨w.heap.size, 1, none⟩ = some (.int .i64 y1) := (hb1.cell (p := ⟨w.heap.size, 1, none⟩) (by first | omega | (simp; done) | (simp; omega))).trans (by go_simp)
  have c2 : w1.cell? ⟨w.heap.size, 2, none⟩ = some (.int .i64 x2) := (hb1.cell (p := ⟨w.heap.size, 2, none⟩) (by first | omega | (simp; done) | (simp; omega))).trans (by go_simp)
  have c3 : w1.cell? ⟨w.heap.size, 3, none⟩ = some (.int .i64 y2) := (hb1.cell (p := ⟨w.heap.size, 3, none⟩) (by first | omega | (simp; done) | (simp; omega))).trans (by go_simp)
  have c4 : w1.cell? ⟨w.heap.size, 4, none⟩ = some (.int .i64 n) := (hb1.cell (p := ⟨w.heap.size, 4, none⟩) (by first | omega | (simp; done) | (simp; omega))).trans (by go_simp)
  have hB1 : Below w.heap.size w w1 := (by repeat (first | exact Below.refl _ _ | assumption | refine Below.drew ?_ | refine below_drewN ?_ _ | refine Below.alloc ?_ (by first | omega | (simp; done) | (simp; omega)) _ | refine Below.setCell ?_ (by first | omega | (simp; done) | (simp; omega)) _ | refine Below.trans ?_ (Below.mono (by assumption) (by first | omega | (simp; done) | (simp; omega)))))
  have HT1 := Lib.hid (HT.out.below hB1)
  have rgc0 := fun d os => cell_regrown c0 d os
  have rgc1 := fun d os => cell_regrown c1 d os
  have rgc2 := fun d os => cell_regrown c2 d os
  have rgc3 := fun d os => cell_regrown c3 d os
  have rgc4 := fun d os => cell_regrown c4 d os
  refine wp_region_quiet_below (by kernel_rfl) (by kernel_rfl) ?_
  repeat (quiet_step (first | (with_reducible exact Calls.regrown_of (HSO.out _)) | (with_reducible exact Calls.regrown_of (HD.out _ (HT1.out.below (below_regrown _ _ _))))))
  refine wpQuiet_nil ?_
  intro _ hw'
  obtain ⟨⟨dq, osq⟩, hw''⟩ := hw'
  subst hw''
  have hq := below_regrown w1 dq osq
  generalize grow (redrawn w1 dq) osq = W2 at hq ⊢
  have hB2 : Below w.heap.size w W2 := hB1.trans (hq.mono (by omega))
  go_wp2
  first | exact bodyPost_ret (v := .tuple #[.bool d, .bool true]) (by simp [results, Tryd.results8, go_sem, *]) rfl ⟨rfl, (by repeat (first | exact Below.refl _ _ | assumption | refine Below.drew ?_ | refine below_drewN ?_ _ | refine Below.alloc ?_ (by first | omega | (simp; done) | (simp; omega)) _ | refine Below.setCell ?_ (by first | omega | (simp; done) | (simp; omega)) _ | refine Below.trans ?_ (Below.mono (by assumption) (by first | omega | (simp; done) | (simp; omega)))))⟩

theorem withinStep_any (x1 y1 x2 y2 n : Int) (s : Int) (w : World) (ht : SqAt w) :
    Calls Tryd.prog 8 #[.agg #[.int .i64 x1, .int .i64 y1, .int .i64 x2, .int .i64 y2, .int .i64 n], .int .i64 s] w fun e w' => e = .returned (.tuple #[.bool ((wiOk x1 y1 x2 y2 n s) && (decide (sqr x1 y1 x2 y2 ≤ wiR s n))), .bool (wiOk x1 y1 x2 y2 n s)]) ∧ Below w.heap.size w w' := by
  cases h1 : isMv x1 y1 x2 y2 n
  · exact withinStep_no x1 y1 x2 y2 n s h1 w
  · cases h2 : inB 1 s 24
    · exact withinStep_out x1 y1 x2 y2 n s h1 h2 w
    · exact withinStep_yes x1 y1 x2 y2 n s h1 h2 w ht

end Go.Proofs.YtagfleajkalgiaaDoor
