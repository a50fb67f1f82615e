/- WaysCross, both sides. Conditions: those written in each theorem. -/
import Derived.Test.YtjojjmmdgldcbaaApBt
import Derived.Deep.RegionHeld3
import Derived.Deep.DrawnRows
import Derived.IntWalk
import Derived.StillTailTactics
import Derived.Deep.DeepCutAuto
import Derived.Lib.QuietBelow
namespace Go.Proofs.Ytjojjmmdgldcbaa
open Go.RowKit Go.Sort


attribute [local go_sem ↓] Go.wp_at_zero Go.wp_at_succ

/-- Do the ways have a place in common? -/
def crs (x1 y1 x2 y2 n x3 y3 x4 y4 m : Int) : Bool := (decide (sd x1 y1 x2 y2 x3 y3 * sd x1 y1 x2 y2 x4 y4 < 0) && decide (sd x3 y3 x4 y4 x1 y1 * sd x3 y3 x4 y4 x2 y2 < 0)) || btw x1 y1 x2 y2 x3 y3 || btw x1 y1 x2 y2 x4 y4 || btw x3 y3 x4 y4 x1 y1 || btw x3 y3 x4 y4 x2 y2
theorem gtog_field {x1 y1 x2 y2 n x3 y3 x4 y4 m : Int} (h : gtog x1 y1 x2 y2 n x3 y3 x4 y4 m = true) : onField x1 y1 = true ∧ onField x2 y2 = true ∧ onField x3 y3 = true ∧ onField x4 y4 = true := by
  obtain ⟨h1, h2, _⟩ := gtog_iff.1 h
  obtain ⟨a1, a2, _⟩ := isMv_iff.1 h1
  obtain ⟨b1, b2, _⟩ := isMv_iff.1 h2
  exact ⟨a1, a2, b1, b2⟩
theorem crs_spec (x1 y1 x2 y2 n x3 y3 x4 y4 m : Int) : crs x1 y1 x2 y2 n x3 y3 x4 y4 m = ((((decide (sgn (sd x1 y1 x2 y2 x3 y3) * sgn (sd x1 y1 x2 y2 x4 y4) < 0) && decide (sgn (sd x3 y3 x4 y4 x1 y1) * sgn (sd x3 y3 x4 y4 x2 y2) < 0)) || ((sgn (sd x1 y1 x2 y2 x3 y3) == 0) && onW x1 y1 x2 y2 x3 y3)) || ((sgn (sd x1 y1 x2 y2 x4 y4) == 0) && onW x1 y1 x2 y2 x4 y4)) || ((sgn (sd x3 y3 x4 y4 x1 y1) == 0) && onW x3 y3 x4 y4 x1 y1) || ((sgn (sd x3 y3 x4 y4 x2 y2) == 0) && onW x3 y3 x4 y4 x2 y2)) := by
  rw [sgn_mul, sgn_mul, sgn_is0, sgn_is0, sgn_is0, sgn_is0]
  rfl

set_option maxHeartbeats 2000000 in
theorem divides_any (x1 y1 x2 y2 n x3 y3 x4 y4 m : Int) (f1 : onField x1 y1 = true) (f2 : onField x2 y2 = true) (f3 : onField x3 y3 = true) (f4 : onField x4 y4 = true) (w : World) :
    Calls Try.prog 74 #[.agg #[.int .i64 x1, .int .i64 y1, .int .i64 x2, .int .i64 y2, .int .i64 n], .agg #[.int .i64 x3, .int .i64 y3, .int .i64 x4, .int .i64 y4, .int .i64 m]] w fun e w' => e = .returned (.bool (decide (sd x1 y1 x2 y2 x3 y3 * sd x1 y1 x2 y2 x4 y4 < 0))) ∧ Below w.heap.size w w' := by
  have H1 := Lib.hid (fun W => sideOf_any x1 y1 x2 y2 x3 y3 n f1 f2 f3 W)
  have H2 := Lib.hid (fun W => sideOf_any x1 y1 x2 y2 x4 y4 n f1 f2 f4 W)
  obtain ⟨_, _, _, _, _, _, S, _, _, _, _, _, _, _, hS, s0, s1, _⟩ := sd_facts f1 f2 f3
  obtain ⟨_, _, _, _, _, _, T, _, _, _, _, _, _, _, hT, t0, t1, _⟩ := sd_facts f1 f2 f4
  rw [← hS] at H1
  rw [← hT] at H2
  rw [← hS, ← hT]
  have p1 := mul_bd s0 s1 t0 t1
  obtain ⟨g, hg⟩ : ∃ g, g = S * T := ⟨_, rfl⟩
  have u1 : IntKind.i64.wrap (S * T) = g := by rw [hg]; exact IntWalk.i64_in _ (by omega)
  rw [← hg]
  obtain ⟨t, ht⟩ : ∃ t, decide (g < 0) = t := ⟨_, rfl⟩
  rw [ht]
  clear f1 f2 f3 f4 hS hT s0 s1 t0 t1 p1 hg
  go_enter Try.func74, Try.ntmps74
  go_upto_region 1 with fail
  obtain ⟨W, hW⟩ : ∃ W, W = (w.alloc (.cells #[.int .i64 x1, .int .i64 y1, .int .i64 x2, .int .i64 y2, .int .i64 n] 30)).alloc (.cells #[.int .i64 x3, .int .i64 y3, .int .i64 x4, .int .i64 y4, .int .i64 m] 30) := ⟨_, rfl⟩
  rw [← hW]
  have c00 : W.cell? ⟨w.heap.size, 0, none⟩ = some (.int .i64 x1) := by rw [hW]; go_simp
  have c01 : W.cell? ⟨w.heap.size, 1, none⟩ = some (.int .i64 y1) := by rw [hW]; go_simp
  have c02 : W.cell? ⟨w.heap.size, 2, none⟩ = some (.int .i64 x2) := by rw [hW]; go_simp
  have c03 : W.cell? ⟨w.heap.size, 3, none⟩ = some (.int .i64 y2) := by rw [hW]; go_simp
  have c04 : W.cell? ⟨w.heap.size, 4, none⟩ = some (.int .i64 n) := by rw [hW]; go_simp
  have c10 : W.cell? ⟨w.heap.size + 1, 0, none⟩ = some (.int .i64 x3) := by rw [hW]; go_simp
  have c11 : W.cell? ⟨w.heap.size + 1, 1, none⟩ = some (.int .i64 y3) := by rw [hW]; go_simp
  have c12 : W.cell? ⟨w.heap.size + 1, 2, none⟩ = some (.int .i64 x4) := by rw [hW]; go_simp
  have c13 : W.cell? ⟨w.heap.size + 1, 3, none⟩ = some (.int .i64 y4) := by rw [hW]; go_simp
  have c14 : W.cell? ⟨w.heap.size + 1, 4, none⟩ = some (.int .i64 m) := by rw [hW]; go_simp
  have hWb : Below w.heap.size w W := by rw [hW]; exact (by repeat (first | exact Below.refl _ _ | assumption | refine Below.drew ?_ | refine below_drewN ?_ _ | refine Below.alloc ?_ (by first | omega | (simp; done) | (simp; omega)) _ | refine Below.setCell ?_ (by first | omega | (simp; done) | (simp; omega)) _ | refine Below.trans ?_ (Below.mono (by assumption) (by first | omega | (simp; done) | (simp; omega)))))
  have hWs : W.heap.size = w.heap.size + 1 + 1 := by rw [hW]; simp
  clear hW
  have rgc00 := fun d os => cell_regrown c00 d os
  have rgc01 := fun d os => cell_regrown c01 d os
  have rgc02 := fun d os => cell_regrown c02 d os
  have rgc03 := fun d os => cell_regrown c03 d os
  have rgc04 := fun d os => cell_regrown c04 d os
  have rgc10 := fun d os => cell_regrown c10 d os
  have rgc11 := fun d os => cell_regrown c11 d os
  have rgc12 := fun d os => cell_regrown c12 d os
  have rgc13 := fun d os => cell_regrown c13 d os
  have rgc14 := fun d os => cell_regrown c14 d os
  refine wp_region_quiet_below (by kernel_rfl) (by kernel_rfl) ?_
  repeat (quiet_step (first | (with_reducible exact Calls.regrown_of (H1.out _)) | (with_reducible exact Calls.regrown_of (H2.out _))))
  refine wpQuiet_nil ?_
  intro _ hw'
  obtain ⟨⟨dq, osq⟩, hw''⟩ := hw'
  subst hw''
  have hq := below_regrown W dq osq
  generalize grow (redrawn W dq) osq = W2 at hq ⊢
  have hB : Below w.heap.size w W2 := hWb.trans (hq.mono (by first | omega | (simp; done) | (simp; omega)))
  clear rgc00 rgc01 rgc02 rgc03 rgc04 rgc10 rgc11 rgc12 rgc13 rgc14
  go_wp2
  first | (go_ret; exact ⟨rfl, hB⟩) | (exact bodyPost_ret (v := .bool t) (by simp [results, Try.results74, go_sem, *]) rfl ⟨rfl, hB⟩)

set_option maxHeartbeats 1000000 in
theorem meets_any (x1 y1 x2 y2 n x3 y3 x4 y4 m : Int) (f1 : onField x1 y1 = true) (f2 : onField x2 y2 = true) (f3 : onField x3 y3 = true) (f4 : onField x4 y4 = true) (w : World) :
    Calls Try.prog 75 #[.agg #[.int .i64 x1, .int .i64 y1, .int .i64 x2, .int .i64 y2, .int .i64 n], .agg #[.int .i64 x3, .int .i64 y3, .int .i64 x4, .int .i64 y4, .int .i64 m]] w fun e w' => e = .returned (.bool (btw x1 y1 x2 y2 x3 y3 || btw x1 y1 x2 y2 x4 y4)) ∧ Below w.heap.size w w' := by
  obtain ⟨q1, q2, q3, q4, q5, q6, q7⟩ := nadd
  have H1 := Lib.hid (fun W => betweenY_any x1 y1 x2 y2 x3 y3 f1 f2 f3 W)
  have H2 := Lib.hid (fun W => betweenY_any x1 y1 x2 y2 x4 y4 f1 f2 f4 W)
  obtain ⟨s, hs⟩ : ∃ s, s = btw x1 y1 x2 y2 x3 y3 := ⟨_, rfl⟩
  obtain ⟨t, ht⟩ : ∃ t, t = btw x1 y1 x2 y2 x4 y4 := ⟨_, rfl⟩
  rw [← hs] at H1
  rw [← ht] at H2
  rw [← hs, ← ht]
  clear f1 f2 f3 f4 hs ht
  cases s <;> cases t
  all_goals
    go_enter Try.func75, Try.ntmps75
    go_wp2_with (first | (go_at_call 97; ((with_reducible refine (H1.out _).mono ?_); rintro e w1 ⟨rfl, hb1⟩; have hs1 := hb1.size; (try simp at hs1); (first | have hk4 := call_facts hl3 hb1 (by first | omega | (simp; done) | (simp; omega)) | skip); (first | have hk3 := call_facts hl2 hb1 (by first | omega | (simp; done) | (simp; omega)) | skip); (first | have hk2 := call_facts hl1 hb1 (by first | omega | (simp; done) | (simp; omega)) | skip); have hk1 := call_facts (fun b h => h) hb1 (Nat.le_refl _); (first | have hl4 := hk4.1 | skip); (first | have hl3 := hk3.1 | skip); (first | have hl2 := hk2.1 | skip); have hl1 := hk1.1)) | (go_at_call 97; ((with_reducible refine (H2.out _).mono ?_); rintro e w1 ⟨rfl, hb1⟩; have hs1 := hb1.size; (try simp at hs1); (first | have hk4 := call_facts hl3 hb1 (by first | omega | (simp; done) | (simp; omega)) | skip); (first | have hk3 := call_facts hl2 hb1 (by first | omega | (simp; done) | (simp; omega)) | skip); (first | have hk2 := call_facts hl1 hb1 (by first | omega | (simp; done) | (simp; omega)) | skip); have hk1 := call_facts (fun b h => h) hb1 (Nat.le_refl _); (first | have hl4 := hk4.1 | skip); (first | have hl3 := hk3.1 | skip); (first | have hl2 := hk2.1 | skip); have hl1 := hk1.1)))
    go_ret
    exact ⟨rfl, (by repeat (first | exact Below.refl _ _ | assumption | refine Below.drew ?_ | refine below_drewN ?_ _ | refine Below.alloc ?_ (by first | omega | (simp; done) | (simp; omega)) _ | refine Below.setCell ?_ (by first | omega | (simp; done) | (simp; omega)) _ | refine Below.trans ?_ (Below.mono (by assumption) (by first | omega | (simp; done) | (simp; omega)))))⟩

set_option maxHeartbeats 1000000 in
theorem specCross_no (x1 y1 x2 y2 n x3 y3 x4 y4 m : Int) (h : gtog x1 y1 x2 y2 n x3 y3 x4 y4 m = false) (w : World) :
    Calls Try.prog 28 #[.agg #[.int .i64 x1, .int .i64 y1, .int .i64 x2, .int .i64 y2, .int .i64 n], .agg #[.int .i64 x3, .int .i64 y3, .int .i64 x4, .int .i64 y4, .int .i64 m]] w fun e w' => e = .returned (.tuple #[.bool (gtog x1 y1 x2 y2 n x3 y3 x4 y4 m && crs x1 y1 x2 y2 n x3 y3 x4 y4 m), .bool (gtog x1 y1 x2 y2 n x3 y3 x4 y4 m)]) ∧ Below w.heap.size w w' := by
  obtain ⟨q1, q2, q3, q4, q5, q6, q7⟩ := nadd
  have HG := Lib.hid (fun W => apGood_any x1 y1 x2 y2 n x3 y3 x4 y4 m W)
  rw [h] at HG
  rw [h]
  clear h
  all_goals
    go_enter Try.func28, Try.ntmps28
    go_wp2_with (first | (go_at_call 53; ((with_reducible refine (HG.out _).mono ?_); rintro e w1 ⟨rfl, hb1⟩; have hs1 := hb1.size; (try simp at hs1); (first | have hk4 := call_facts hl3 hb1 (by first | omega | (simp; done) | (simp; omega)) | skip); (first | have hk3 := call_facts hl2 hb1 (by first | omega | (simp; done) | (simp; omega)) | skip); (first | have hk2 := call_facts hl1 hb1 (by first | omega | (simp; done) | (simp; omega)) | skip); have hk1 := call_facts (fun b h => h) hb1 (Nat.le_refl _); (first | have hl4 := hk4.1 | skip); (first | have hl3 := hk3.1 | skip); (first | have hl2 := hk2.1 | skip); have hl1 := hk1.1)))
    first | exact bodyPost_ret (v := .tuple #[.bool false, .bool false]) (by simp [results, Try.results28, go_sem, *]) rfl ⟨rfl, (by repeat (first | exact Below.refl _ _ | assumption | refine Below.drew ?_ | refine below_drewN ?_ _ | refine Below.alloc ?_ (by first | omega | (simp; done) | (simp; omega)) _ | refine Below.setCell ?_ (by first | omega | (simp; done) | (simp; omega)) _ | refine Below.trans ?_ (Below.mono (by assumption) (by first | omega | (simp; done) | (simp; omega)))))⟩

set_option maxHeartbeats 1000000 in
theorem cross_no (x1 y1 x2 y2 n x3 y3 x4 y4 m : Int) (h : gtog x1 y1 x2 y2 n x3 y3 x4 y4 m = false) (w : World) :
    Calls Try.prog 29 #[.agg #[.int .i64 x1, .int .i64 y1, .int .i64 x2, .int .i64 y2, .int .i64 n], .agg #[.int .i64 x3, .int .i64 y3, .int .i64 x4, .int .i64 y4, .int .i64 m]] w fun e w' => e = .returned (.tuple #[.bool (gtog x1 y1 x2 y2 n x3 y3 x4 y4 m && crs x1 y1 x2 y2 n x3 y3 x4 y4 m), .bool (gtog x1 y1 x2 y2 n x3 y3 x4 y4 m)]) ∧ Below w.heap.size w w' := by
  obtain ⟨q1, q2, q3, q4, q5, q6, q7⟩ := nadd
  have HG := Lib.hid (fun W => goTogether_any x1 y1 x2 y2 n x3 y3 x4 y4 m W)
  rw [h] at HG
  rw [h]
  clear h
  all_goals
    go_enter Try.func29, Try.ntmps29
    go_wp2_with (first | (go_at_call 58; ((with_reducible refine (HG.out _).mono ?_); rintro e w1 ⟨rfl, hb1⟩; have hs1 := hb1.size; (try simp at hs1); (first | have hk4 := call_facts hl3 hb1 (by first | omega | (simp; done) | (simp; omega)) | skip); (first | have hk3 := call_facts hl2 hb1 (by first | omega | (simp; done) | (simp; omega)) | skip); (first | have hk2 := call_facts hl1 hb1 (by first | omega | (simp; done) | (simp; omega)) | skip); have hk1 := call_facts (fun b h => h) hb1 (Nat.le_refl _); (first | have hl4 := hk4.1 | skip); (first | have hl3 := hk3.1 | skip); (first | have hl2 := hk2.1 | skip); have hl1 := hk1.1)))
    first | exact bodyPost_ret (v := .tuple #[.bool false, .bool false]) (by simp [results, Try.results29, go_sem, *]) rfl ⟨rfl, (by repeat (first | exact Below.refl _ _ | assumption | refine Below.drew ?_ | refine below_drewN ?_ _ | refine Below.alloc ?_ (by first | omega | (simp; done) | (simp; omega)) _ | refine Below.setCell ?_ (by first | omega | (simp; done) | (simp; omega)) _ | refine Below.trans ?_ (Below.mono (by assumption) (by first | omega | (simp; done) | (simp; omega)))))⟩

set_option maxHeartbeats 4000000 in
theorem cross_yes (x1 y1 x2 y2 n x3 y3 x4 y4 m : Int) (h : gtog x1 y1 x2 y2 n x3 y3 x4 y4 m = true) (w : World) :
    Calls Try.prog 29 #[.agg #[.int .i64 x1, .int .i64 y1, .int .i64 x2, .int .i64 y2, .int .i64 n], .agg #[.int .i64 x3, .int .i64 y3, .int .i64 x4, .int .i64 y4, .int .i64 m]] w fun e w' => e = .returned (.tuple #[.bool (gtog x1 y1 x2 y2 n x3 y3 x4 y4 m && crs x1 y1 x2 y2 n x3 y3 x4 y4 m), .bool (gtog x1 y1 x2 y2 n x3 y3 x4 y4 m)]) ∧ Below w.heap.size w w' := by
  obtain ⟨q1, q2, q3, q4, q5, q6, q7⟩ := nadd
  have HG := Lib.hid (fun W => goTogether_any x1 y1 x2 y2 n x3 y3 x4 y4 m W)
  rw [h] at HG
  obtain ⟨f1, f2, f3, f4⟩ := gtog_field h
  have H1 := Lib.hid (fun W => divides_any x1 y1 x2 y2 n x3 y3 x4 y4 m f1 f2 f3 f4 W)
  have H2 := Lib.hid (fun W => divides_any x3 y3 x4 y4 m x1 y1 x2 y2 n f3 f4 f1 f2 W)
  have H3 := Lib.hid (fun W => meets_any x1 y1 x2 y2 n x3 y3 x4 y4 m f1 f2 f3 f4 W)
  have H4 := Lib.hid (fun W => meets_any x3 y3 x4 y4 m x1 y1 x2 y2 n f3 f4 f1 f2 W)
  have e0 : crs x1 y1 x2 y2 n x3 y3 x4 y4 m = ((decide (sd x1 y1 x2 y2 x3 y3 * sd x1 y1 x2 y2 x4 y4 < 0) && decide (sd x3 y3 x4 y4 x1 y1 * sd x3 y3 x4 y4 x2 y2 < 0)) || (btw x1 y1 x2 y2 x3 y3 || btw x1 y1 x2 y2 x4 y4) || (btw x3 y3 x4 y4 x1 y1 || btw x3 y3 x4 y4 x2 y2)) := by unfold crs; simp only [Bool.or_assoc]
  rw [h, e0]
  obtain ⟨b1, hb1⟩ : ∃ s, s = decide (sd x1 y1 x2 y2 x3 y3 * sd x1 y1 x2 y2 x4 y4 < 0) := ⟨_, rfl⟩
  obtain ⟨b2, hb2⟩ : ∃ s, s = decide (sd x3 y3 x4 y4 x1 y1 * sd x3 y3 x4 y4 x2 y2 < 0) := ⟨_, rfl⟩
  obtain ⟨b3, hb3⟩ : ∃ s, s = (btw x1 y1 x2 y2 x3 y3 || btw x1 y1 x2 y2 x4 y4) := ⟨_, rfl⟩
  obtain ⟨b4, hb4⟩ : ∃ s, s = (btw x3 y3 x4 y4 x1 y1 || btw x3 y3 x4 y4 x2 y2) := ⟨_, rfl⟩
  rw [← hb1] at H1
  rw [← hb2] at H2
  rw [← hb3] at H3
  rw [← hb4] at H4
  rw [← hb1, ← hb2, ← hb3, ← hb4]
  clear f1 f2 f3 f4 hb1 hb2 hb3 hb4 e0 h
  cases b1 <;> cases b2 <;> cases b3 <;> cases b4
  all_goals
    go_enter Try.func29, Try.ntmps29
    go_wp2_with (first | (go_at_call 58; ((with_reducible refine (HG.out _).mono ?_); rintro e w1 ⟨rfl, hb1⟩; have hs1 := hb1.size; (try simp at hs1); (first | have hk4 := call_facts hl3 hb1 (by first | omega | (simp; done) | (simp; omega)) | skip); (first | have hk3 := call_facts hl2 hb1 (by first | omega | (simp; done) | (simp; omega)) | skip); (first | have hk2 := call_facts hl1 hb1 (by first | omega | (simp; done) | (simp; omega)) | skip); have hk1 := call_facts (fun b h => h) hb1 (Nat.le_refl _); (first | have hl4 := hk4.1 | skip); (first | have hl3 := hk3.1 | skip); (first | have hl2 := hk2.1 | skip); have hl1 := hk1.1)) | (go_at_call 74; ((with_reducible refine (H1.out _).mono ?_); rintro e w1 ⟨rfl, hb1⟩; have hs1 := hb1.size; (try simp at hs1); (first | have hk4 := call_facts hl3 hb1 (by first | omega | (simp; done) | (simp; omega)) | skip); (first | have hk3 := call_facts hl2 hb1 (by first | omega | (simp; done) | (simp; omega)) | skip); (first | have hk2 := call_facts hl1 hb1 (by first | omega | (simp; done) | (simp; omega)) | skip); have hk1 := call_facts (fun b h => h) hb1 (Nat.le_refl _); (first | have hl4 := hk4.1 | skip); (first | have hl3 := hk3.1 | skip); (first | have hl2 := hk2.1 | skip); have hl1 := hk1.1)) | (go_at_call 74; ((with_reducible refine (H2.out _).mono ?_); rintro e w1 ⟨rfl, hb1⟩; have hs1 := hb1.size; (try simp at hs1); (first | have hk4 := call_facts hl3 hb1 (by first | omega | (simp; done) | (simp; omega)) | skip); (first | have hk3 := call_facts hl2 hb1 (by first | omega | (simp; done) | (simp; omega)) | skip); (first | have hk2 := call_facts hl1 hb1 (by first | omega | (simp; done) | (simp; omega)) | skip); have hk1 := call_facts (fun b h => h) hb1 (Nat.le_refl _); (first | have hl4 := hk4.1 | skip); (first | have hl3 := hk3.1 | skip); (first | have hl2 := hk2.1 | skip); have hl1 := hk1.1)) | (go_at_call 75; ((with_reducible refine (H3.out _).mono ?_); rintro e w1 ⟨rfl, hb1⟩; have hs1 := hb1.size; (try simp at hs1); (first | have hk4 := call_facts hl3 hb1 (by first | omega | (simp; done) | (simp; omega)) | skip); (first | have hk3 := call_facts hl2 hb1 (by first | omega | (simp; done) | (simp; omega)) | skip); (first | have hk2 := call_facts hl1 hb1 (by first | omega | (simp; done) | (simp; omega)) | skip); have hk1 := call_facts (fun b h => h) hb1 (Nat.le_refl _); (first | have hl4 := hk4.1 | skip); (first | have hl3 := hk3.1 | skip); (first | have hl2 := hk2.1 | skip); have hl1 := hk1.1)) | (go_at_call 75; ((with_reducible refine (H4.out _).mono ?_); rintro e w1 ⟨rfl, hb1⟩; have hs1 := hb1.size; (try simp at hs1); (first | have hk4 := call_facts hl3 hb1 (by first | omega | (simp; done) | (simp; omega)) | skip); (first | have hk3 := call_facts hl2 hb1 (by first | omega | (simp; done) | (simp; omega)) | skip); (first | have hk2 := call_facts hl1 hb1 (by first | omega | (simp; done) | (simp; omega)) | skip); have hk1 := call_facts (fun b h => h) hb1 (Nat.le_refl _); (first | have hl4 := hk4.1 | skip); (first | have hl3 := hk3.1 | skip); (first | have hl2 := hk2.1 | skip); have hl1 := hk1.1)))
    first | (go_ret; exact ⟨rfl, (by repeat (first | exact Below.refl _ _ | assumption | refine Below.drew ?_ | refine below_drewN ?_ _ | refine Below.alloc ?_ (by first | omega | (simp; done) | (simp; omega)) _ | refine Below.setCell ?_ (by first | omega | (simp; done) | (simp; omega)) _ | refine Below.trans ?_ (Below.mono (by assumption) (by first | omega | (simp; done) | (simp; omega)))))⟩) | (first | exact bodyPost_ret (v := .tuple #[.bool true, .bool true]) (by simp [results, Try.results29, go_sem, *]) rfl ⟨rfl, (by repeat (first | exact Below.refl _ _ | assumption | refine Below.drew ?_ | refine below_drewN ?_ _ | refine Below.alloc ?_ (by first | omega | (simp; done) | (simp; omega)) _ | refine Below.setCell ?_ (by first | omega | (simp; done) | (simp; omega)) _ | refine Below.trans ?_ (Below.mono (by assumption) (by first | omega | (simp; done) | (simp; omega)))))⟩ | exact bodyPost_ret (v := .tuple #[.bool false, .bool true]) (by simp [results, Try.results29, go_sem, *]) rfl ⟨rfl, (by repeat (first | exact Below.refl _ _ | assumption | refine Below.drew ?_ | refine below_drewN ?_ _ | refine Below.alloc ?_ (by first | omega | (simp; done) | (simp; omega)) _ | refine Below.setCell ?_ (by first | omega | (simp; done) | (simp; omega)) _ | refine Below.trans ?_ (Below.mono (by assumption) (by first | omega | (simp; done) | (simp; omega)))))⟩)

set_option maxRecDepth 100000 in
set_option maxHeartbeats 4000000 in
theorem specCross_yes (x1 y1 x2 y2 n x3 y3 x4 y4 m : Int) (h : gtog x1 y1 x2 y2 n x3 y3 x4 y4 m = true) (w : World) :
    Calls Try.prog 28 #[.agg #[.int .i64 x1, .int .i64 y1, .int .i64 x2, .int .i64 y2, .int .i64 n], .agg #[.int .i64 x3, .int .i64 y3, .int .i64 x4, .int .i64 y4, .int .i64 m]] w fun e w' => e = .returned (.tuple #[.bool (gtog x1 y1 x2 y2 n x3 y3 x4 y4 m && crs x1 y1 x2 y2 n x3 y3 x4 y4 m), .bool (gtog x1 y1 x2 y2 n x3 y3 x4 y4 m)]) ∧ Below w.heap.size w w' := by
  obtain ⟨q1, q2, q3, q4, q5, q6, q7⟩ := nadd
  have HG := Lib.hid (fun W => apGood_any x1 y1 x2 y2 n x3 y3 x4 y4 m W)
  rw [h] at HG
  obtain ⟨f1, f2, f3, f4⟩ := gtog_field h
  have H1 := Lib.hid (fun W => apSide_any x1 y1 x2 y2 x3 y3 f1 f2 f3 W)
  have H2 := Lib.hid (fun W => apSide_any x1 y1 x2 y2 x4 y4 f1 f2 f4 W)
  have H3 := Lib.hid (fun W => apSide_any x3 y3 x4 y4 x1 y1 f3 f4 f1 W)
  have H4 := Lib.hid (fun W => apSide_any x3 y3 x4 y4 x2 y2 f3 f4 f2 W)
  have O1 := Lib.hid (fun W => apOn_any x1 y1 x2 y2 x3 y3 W)
  have O2 := Lib.hid (fun W => apOn_any x1 y1 x2 y2 x4 y4 W)
  have O3 := Lib.hid (fun W => apOn_any x3 y3 x4 y4 x1 y1 W)
  have O4 := Lib.hid (fun W => apOn_any x3 y3 x4 y4 x2 y2 W)
  rw [h, crs_spec]
  obtain ⟨C, hC⟩ : ∃ s, s = sgn (sd x1 y1 x2 y2 x3 y3) := ⟨_, rfl⟩
  obtain ⟨D, hD⟩ : ∃ s, s = sgn (sd x1 y1 x2 y2 x4 y4) := ⟨_, rfl⟩
  obtain ⟨E, hE⟩ : ∃ s, s = sgn (sd x3 y3 x4 y4 x1 y1) := ⟨_, rfl⟩
  obtain ⟨F, hF⟩ : ∃ s, s = sgn (sd x3 y3 x4 y4 x2 y2) := ⟨_, rfl⟩
  have bC := sgn_bd (sd x1 y1 x2 y2 x3 y3)
  have bD := sgn_bd (sd x1 y1 x2 y2 x4 y4)
  have bE := sgn_bd (sd x3 y3 x4 y4 x1 y1)
  have bF := sgn_bd (sd x3 y3 x4 y4 x2 y2)
  obtain ⟨o1, ho1⟩ : ∃ s, s = onW x1 y1 x2 y2 x3 y3 := ⟨_, rfl⟩
  obtain ⟨o2, ho2⟩ : ∃ s, s = onW x1 y1 x2 y2 x4 y4 := ⟨_, rfl⟩
  obtain ⟨o3, ho3⟩ : ∃ s, s = onW x3 y3 x4 y4 x1 y1 := ⟨_, rfl⟩
  obtain ⟨o4, ho4⟩ : ∃ s, s = onW x3 y3 x4 y4 x2 y2 := ⟨_, rfl⟩
  rw [← hC] at H1 bC
  rw [← hD] at H2 bD
  rw [← hE] at H3 bE
  rw [← hF] at H4 bF
  rw [← ho1] at O1
  rw [← ho2] at O2
  rw [← ho3] at O3
  rw [← ho4] at O4
  rw [← hC, ← hD, ← hE, ← hF, ← ho1, ← ho2, ← ho3, ← ho4]
  have p1 := mul_bd bC.1 bC.2 bD.1 bD.2
  have p2 := mul_bd bE.1 bE.2 bF.1 bF.2
  obtain ⟨P, hP⟩ : ∃ s, s = C * D := ⟨_, rfl⟩
  obtain ⟨Q, hQ⟩ : ∃ s, s = E * F := ⟨_, rfl⟩
  have u1 : IntKind.i64.wrap (C * D) = P := by rw [hP]; exact IntWalk.i64_in _ (by omega)
  have u2 : IntKind.i64.wrap (E * F) = Q := by rw [hQ]; exact IntWalk.i64_in _ (by omega)
  rw [← hP, ← hQ]
  obtain ⟨r1, hr1⟩ : ∃ s, decide (P < 0) = s := ⟨_, rfl⟩
  obtain ⟨r2, hr2⟩ : ∃ s, decide (Q < 0) = s := ⟨_, rfl⟩
  obtain ⟨zc, hzc⟩ : ∃ s, (C == 0) = s := ⟨_, rfl⟩
  obtain ⟨zd, hzd⟩ : ∃ s, (D == 0) = s := ⟨_, rfl⟩
  obtain ⟨ze, hze⟩ : ∃ s, (E == 0) = s := ⟨_, rfl⟩
  obtain ⟨zf, hzf⟩ : ∃ s, (F == 0) = s := ⟨_, rfl⟩
  rw [hr1, hr2, hzc, hzd, hze, hzf]
  obtain ⟨R, hR⟩ : ∃ R, R = (true && (((((r1 && r2) || (zc && o1)) || (zd && o2)) || (ze && o3)) || (zf && o4))) := ⟨_, rfl⟩
  rw [← hR]
  have HR := Lib.hid hR
  clear hR
  clear h f1 f2 f3 f4 hC hD hE hF bC bD bE bF ho1 ho2 ho3 ho4 p1 p2 hP hQ
  go_enter Try.func28, Try.ntmps28
  go_upto_region 3 with (go_at_call 53; ((with_reducible refine (HG.out _).mono ?_); rintro e w1 ⟨rfl, hb1⟩))
  have hs1 := hb1.size
  try simp at hs1
  have c00 : w1.cell? ⟨w.heap.size, 0, none⟩ = some (.int .i64 x1) := (hb1.cell (p := ⟨w.heap.size, 0, none⟩) (by first | omega | (simp; done) | (simp; omega))).trans (by go_simp)
  have c01 : w1.cell? ⟨w.heap.size, 1, none⟩ = some (.int .i64 y1) := (hb1.cell (p := ⟨w.heap.size, 1, none⟩) (by first | omega | (simp; done) | (simp; omega))).trans (by go_simp)
  have c02 : w1.cell? ⟨w.heap.size, 2, none⟩ = some (.int .i64 x2) := (hb1.cell (p := ⟨w.heap.size, 2, none⟩) (by first | omega | (simp; done) | (simp; omega))).trans (by go_simp)
  have c03 : w1.cell? ⟨w.heap.size, 3, none⟩ = some (.int .i64 y2) := (hb1.cell (p := ⟨w.heap.size, 3, none⟩) (by first | omega | (simp; done) | (simp; omega))).trans (by go_simp)
  have c04 : w1.cell? ⟨w.heap.size, 4, none⟩ = some (.int .i64 n) := (hb1.cell (p := ⟨w.heap.size, 4, none⟩) (by first | omega | (simp; done) | (simp; omega))).trans (by go_simp)
  have c10 : w1.cell? ⟨w.heap.size + 1, 0, none⟩ = some (.int .i64 x3) := (hb1.cell (p := ⟨w.heap.size + 1, 0, none⟩) (by first | omega | (simp; done) | (simp; omega))).trans (by go_simp)
  have c11 : w1.cell? ⟨w.heap.size + 1, 1, none⟩ = some (.int .i64 y3) := (hb1.cell (p := ⟨w.heap.size + 1, 1, none⟩) (by first | omega | (simp; done) | (simp; omega))).trans (by go_simp)
  have c12 : w1.cell? ⟨w.heap.size + 1, 2, none⟩ = some (.int .i64 x4) := (hb1.cell (p := ⟨w.heap.size + 1, 2, none⟩) (by first | omega | (simp; done) | (simp; omega))).trans (by go_simp)
  have c13 : w1.cell? ⟨w.heap.size + 1, 3, none⟩ = some (.int .i64 y4) := (hb1.cell (p := ⟨w.heap.size + 1, 3, none⟩) (by first | omega | (simp; done) | (simp; omega))).trans (by go_simp)
  have c14 : w1.cell? ⟨w.heap.size + 1, 4, none⟩ = some (.int .i64 m) := (hb1.cell (p := ⟨w.heap.size + 1, 4, none⟩) (by first | omega | (simp; done) | (simp; omega))).trans (by go_simp)
  have hB1 : Below w.heap.size w w1 := (by repeat (first | exact Below.refl _ _ | assumption | refine Below.drew ?_ | refine below_drewN ?_ _ | refine Below.alloc ?_ (by first | omega | (simp; done) | (simp; omega)) _ | refine Below.setCell ?_ (by first | omega | (simp; done) | (simp; omega)) _ | refine Below.trans ?_ (Below.mono (by assumption) (by first | omega | (simp; done) | (simp; omega)))))
  clear hb1
  have rgc00 := fun d os => cell_regrown c00 d os
  have rgc01 := fun d os => cell_regrown c01 d os
  have rgc02 := fun d os => cell_regrown c02 d os
  have rgc03 := fun d os => cell_regrown c03 d os
  have rgc04 := fun d os => cell_regrown c04 d os
  have rgc10 := fun d os => cell_regrown c10 d os
  have rgc11 := fun d os => cell_regrown c11 d os
  have rgc12 := fun d os => cell_regrown c12 d os
  have rgc13 := fun d os => cell_regrown c13 d os
  have rgc14 := fun d os => cell_regrown c14 d os
  refine wp_region_quiet_below (by kernel_rfl) (by kernel_rfl) ?_
  repeat (quiet_step (first | (with_reducible exact Calls.regrown_of (H1.out _)) | (with_reducible exact Calls.regrown_of (H2.out _))))
  refine wpQuiet_nil ?_
  intro _ hw'
  obtain ⟨⟨dq, osq⟩, hw''⟩ := hw'
  subst hw''
  have hq := below_regrown w1 dq osq
  generalize grow (redrawn w1 dq) osq = W2 at hq ⊢
  clear rgc00 rgc01 rgc02 rgc03 rgc04 rgc10 rgc11 rgc12 rgc13 rgc14
  have hs2 := hq.size
  replace c00 : W2.cell? ⟨w.heap.size, 0, none⟩ = some (.int .i64 x1) := (hq.cell (p := ⟨w.heap.size, 0, none⟩) (by first | omega | (simp; done) | (simp; omega))).trans c00
  replace c01 : W2.cell? ⟨w.heap.size, 1, none⟩ = some (.int .i64 y1) := (hq.cell (p := ⟨w.heap.size, 1, none⟩) (by first | omega | (simp; done) | (simp; omega))).trans c01
  replace c02 : W2.cell? ⟨w.heap.size, 2, none⟩ = some (.int .i64 x2) := (hq.cell (p := ⟨w.heap.size, 2, none⟩) (by first | omega | (simp; done) | (simp; omega))).trans c02
  replace c03 : W2.cell? ⟨w.heap.size, 3, none⟩ = some (.int .i64 y2) := (hq.cell (p := ⟨w.heap.size, 3, none⟩) (by first | omega | (simp; done) | (simp; omega))).trans c03
  replace c04 : W2.cell? ⟨w.heap.size, 4, none⟩ = some (.int .i64 n) := (hq.cell (p := ⟨w.heap.size, 4, none⟩) (by first | omega | (simp; done) | (simp; omega))).trans c04
  replace c10 : W2.cell? ⟨w.heap.size + 1, 0, none⟩ = some (.int .i64 x3) := (hq.cell (p := ⟨w.heap.size + 1, 0, none⟩) (by first | omega | (simp; done) | (simp; omega))).trans c10
  replace c11 : W2.cell? ⟨w.heap.size + 1, 1, none⟩ = some (.int .i64 y3) := (hq.cell (p := ⟨w.heap.size + 1, 1, none⟩) (by first | omega | (simp; done) | (simp; omega))).trans c11
  replace c12 : W2.cell? ⟨w.heap.size + 1, 2, none⟩ = some (.int .i64 x4) := (hq.cell (p := ⟨w.heap.size + 1, 2, none⟩) (by first | omega | (simp; done) | (simp; omega))).trans c12
  replace c13 : W2.cell? ⟨w.heap.size + 1, 3, none⟩ = some (.int .i64 y4) := (hq.cell (p := ⟨w.heap.size + 1, 3, none⟩) (by first | omega | (simp; done) | (simp; omega))).trans c13
  replace c14 : W2.cell? ⟨w.heap.size + 1, 4, none⟩ = some (.int .i64 m) := (hq.cell (p := ⟨w.heap.size + 1, 4, none⟩) (by first | omega | (simp; done) | (simp; omega))).trans c14
  have hB2 : Below w.heap.size w W2 := hB1.trans (hq.mono (by first | omega | (simp; done) | (simp; omega)))
  clear hq hB1
  go_upto_region 4 with fail
  have rgc00 := fun d os => cell_regrown c00 d os
  have rgc01 := fun d os => cell_regrown c01 d os
  have rgc02 := fun d os => cell_regrown c02 d os
  have rgc03 := fun d os => cell_regrown c03 d os
  have rgc04 := fun d os => cell_regrown c04 d os
  have rgc10 := fun d os => cell_regrown c10 d os
  have rgc11 := fun d os => cell_regrown c11 d os
  have rgc12 := fun d os => cell_regrown c12 d os
  have rgc13 := fun d os => cell_regrown c13 d os
  have rgc14 := fun d os => cell_regrown c14 d os
  refine wp_region_quiet_below (by kernel_rfl) (by kernel_rfl) ?_
  repeat (quiet_step (first | (with_reducible exact Calls.regrown_of (H3.out _)) | (with_reducible exact Calls.regrown_of (H4.out _))))
  refine wpQuiet_nil ?_
  intro _ hw'
  obtain ⟨⟨dq, osq⟩, hw''⟩ := hw'
  subst hw''
  have hq := below_regrown W2 dq osq
  generalize grow (redrawn W2 dq) osq = W3 at hq ⊢
  clear rgc00 rgc01 rgc02 rgc03 rgc04 rgc10 rgc11 rgc12 rgc13 rgc14
  have hs3 := hq.size
  replace c00 : W3.cell? ⟨w.heap.size, 0, none⟩ = some (.int .i64 x1) := (hq.cell (p := ⟨w.heap.size, 0, none⟩) (by first | omega | (simp; done) | (simp; omega))).trans c00
  replace c01 : W3.cell? ⟨w.heap.size, 1, none⟩ = some (.int .i64 y1) := (hq.cell (p := ⟨w.heap.size, 1, none⟩) (by first | omega | (simp; done) | (simp; omega))).trans c01
  replace c02 : W3.cell? ⟨w.heap.size, 2, none⟩ = some (.int .i64 x2) := (hq.cell (p := ⟨w.heap.size, 2, none⟩) (by first | omega | (simp; done) | (simp; omega))).trans c02
  replace c03 : W3.cell? ⟨w.heap.size, 3, none⟩ = some (.int .i64 y2) := (hq.cell (p := ⟨w.heap.size, 3, none⟩) (by first | omega | (simp; done) | (simp; omega))).trans c03
  replace c04 : W3.cell? ⟨w.heap.size, 4, none⟩ = some (.int .i64 n) := (hq.cell (p := ⟨w.heap.size, 4, none⟩) (by first | omega | (simp; done) | (simp; omega))).trans c04
  replace c10 : W3.cell? ⟨w.heap.size + 1, 0, none⟩ = some (.int .i64 x3) := (hq.cell (p := ⟨w.heap.size + 1, 0, none⟩) (by first | omega | (simp; done) | (simp; omega))).trans c10
  replace c11 : W3.cell? ⟨w.heap.size + 1, 1, none⟩ = some (.int .i64 y3) := (hq.cell (p := ⟨w.heap.size + 1, 1, none⟩) (by first | omega | (simp; done) | (simp; omega))).trans c11
  replace c12 : W3.cell? ⟨w.heap.size + 1, 2, none⟩ = some (.int .i64 x4) := (hq.cell (p := ⟨w.heap.size + 1, 2, none⟩) (by first | omega | (simp; done) | (simp; omega))).trans c12
  replace c13 : W3.cell? ⟨w.heap.size + 1, 3, none⟩ = some (.int .i64 y4) := (hq.cell (p := ⟨w.heap.size + 1, 3, none⟩) (by first | omega | (simp; done) | (simp; omega))).trans c13
  replace c14 : W3.cell? ⟨w.heap.size + 1, 4, none⟩ = some (.int .i64 m) := (hq.cell (p := ⟨w.heap.size + 1, 4, none⟩) (by first | omega | (simp; done) | (simp; omega))).trans c14
  have hB3 : Below w.heap.size w W3 := hB2.trans (hq.mono (by first | omega | (simp; done) | (simp; omega)))
  have hS3 : w.heap.size + 1 < W3.heap.size := by omega
  have hS0 : w.heap.size < W3.heap.size := by omega
  clear hq hB2 hs1 hs2 hs3 H1 H2 H3 H4 HG
  go_upto_region 5 with fail
  go_cut [10] (fun s wx => s = .bool (r1 && r2) ∧ wx = W3)
  case first =>
    cases r1 <;> cases r2
    all_goals
      go_wp2
      go_meet
      first | exact ⟨rfl, rfl⟩ | (simp [*]; done)
  case rest =>
    obtain ⟨rfl, rfl⟩ := hcut
    obtain ⟨W3, rfl⟩ : ∃ x, x = wc := ⟨_, rfl⟩
    obtain ⟨b1, hb1⟩ : ∃ s, s = (r1 && r2) := ⟨_, rfl⟩
    rw [← hb1]
    have HB1 := Lib.hid hb1
    clear hb1 hr1 hr2 u1 u2
    go_upto_region 6 with fail
    go_cut [10] (fun s wx => s = .bool ((b1 || (zc && o1)) || (zd && o2)) ∧ Below W3.heap.size W3 wx)
    case first =>
      cases b1 <;> cases zc <;> cases zd <;> cases o1 <;> cases o2
      all_goals
        go_wp2_with (first | (go_at_call 73; ((with_reducible refine (O1.out _).mono ?_); rintro e w1 ⟨rfl, hb1⟩; have hs1 := hb1.size; (try simp at hs1); (first | have hk4 := call_facts hl3 hb1 (by first | omega | (simp; done) | (simp; omega)) | skip); (first | have hk3 := call_facts hl2 hb1 (by first | omega | (simp; done) | (simp; omega)) | skip); (first | have hk2 := call_facts hl1 hb1 (by first | omega | (simp; done) | (simp; omega)) | skip); have hk1 := call_facts (fun b h => h) hb1 (Nat.le_refl _); (first | have hl4 := hk4.1 | skip); (first | have hl3 := hk3.1 | skip); (first | have hl2 := hk2.1 | skip); have hl1 := hk1.1)) | (go_at_call 73; ((with_reducible refine (O2.out _).mono ?_); rintro e w1 ⟨rfl, hb1⟩; have hs1 := hb1.size; (try simp at hs1); (first | have hk4 := call_facts hl3 hb1 (by first | omega | (simp; done) | (simp; omega)) | skip); (first | have hk3 := call_facts hl2 hb1 (by first | omega | (simp; done) | (simp; omega)) | skip); (first | have hk2 := call_facts hl1 hb1 (by first | omega | (simp; done) | (simp; omega)) | skip); have hk1 := call_facts (fun b h => h) hb1 (Nat.le_refl _); (first | have hl4 := hk4.1 | skip); (first | have hl3 := hk3.1 | skip); (first | have hl2 := hk2.1 | skip); have hl1 := hk1.1)))
        go_meet
        exact ⟨rfl, (by repeat (first | exact Below.refl _ _ | assumption | refine Below.drew ?_ | refine below_drewN ?_ _ | refine Below.alloc ?_ (by first | omega | (simp; done) | (simp; omega)) _ | refine Below.setCell ?_ (by first | omega | (simp; done) | (simp; omega)) _ | refine Below.trans ?_ (Below.mono (by assumption) (by first | omega | (simp; done) | (simp; omega)))))⟩
    case rest =>
      obtain ⟨rfl, hbx⟩ := hcut
      obtain ⟨W4, rfl⟩ : ∃ x, x = wc := ⟨_, rfl⟩
      have hs4 := hbx.size
      have hT0 : w.heap.size < W4.heap.size := by omega
      have hT1 : w.heap.size + 1 < W4.heap.size := by omega
      replace c00 : W4.cell? ⟨w.heap.size, 0, none⟩ = some (.int .i64 x1) := (hbx.cell (p := ⟨w.heap.size, 0, none⟩) (by first | omega | (simp; done) | (simp; omega))).trans c00
      replace c01 : W4.cell? ⟨w.heap.size, 1, none⟩ = some (.int .i64 y1) := (hbx.cell (p := ⟨w.heap.size, 1, none⟩) (by first | omega | (simp; done) | (simp; omega))).trans c01
      replace c02 : W4.cell? ⟨w.heap.size, 2, none⟩ = some (.int .i64 x2) := (hbx.cell (p := ⟨w.heap.size, 2, none⟩) (by first | omega | (simp; done) | (simp; omega))).trans c02
      replace c03 : W4.cell? ⟨w.heap.size, 3, none⟩ = some (.int .i64 y2) := (hbx.cell (p := ⟨w.heap.size, 3, none⟩) (by first | omega | (simp; done) | (simp; omega))).trans c03
      replace c04 : W4.cell? ⟨w.heap.size, 4, none⟩ = some (.int .i64 n) := (hbx.cell (p := ⟨w.heap.size, 4, none⟩) (by first | omega | (simp; done) | (simp; omega))).trans c04
      replace c10 : W4.cell? ⟨w.heap.size + 1, 0, none⟩ = some (.int .i64 x3) := (hbx.cell (p := ⟨w.heap.size + 1, 0, none⟩) (by first | omega | (simp; done) | (simp; omega))).trans c10
      replace c11 : W4.cell? ⟨w.heap.size + 1, 1, none⟩ = some (.int .i64 y3) := (hbx.cell (p := ⟨w.heap.size + 1, 1, none⟩) (by first | omega | (simp; done) | (simp; omega))).trans c11
      replace c12 : W4.cell? ⟨w.heap.size + 1, 2, none⟩ = some (.int .i64 x4) := (hbx.cell (p := ⟨w.heap.size + 1, 2, none⟩) (by first | omega | (simp; done) | (simp; omega))).trans c12
      replace c13 : W4.cell? ⟨w.heap.size + 1, 3, none⟩ = some (.int .i64 y4) := (hbx.cell (p := ⟨w.heap.size + 1, 3, none⟩) (by first | omega | (simp; done) | (simp; omega))).trans c13
      replace c14 : W4.cell? ⟨w.heap.size + 1, 4, none⟩ = some (.int .i64 m) := (hbx.cell (p := ⟨w.heap.size + 1, 4, none⟩) (by first | omega | (simp; done) | (simp; omega))).trans c14
      have hB4 : Below w.heap.size w W4 := hB3.trans (hbx.mono (by first | omega | (simp; done) | (simp; omega)))
      obtain ⟨b2, hb2⟩ : ∃ s, s = ((b1 || (zc && o1)) || (zd && o2)) := ⟨_, rfl⟩
      have hR : R = ((b2 || (ze && o3)) || (zf && o4)) := by rw [HR.out, hb2, HB1.out, Bool.true_and]
      rw [← hb2]
      clear hb2 hzc hzd O1 O2 hB3 hbx HB1 HR
      cases b2 <;> cases ze <;> cases zf <;> cases o3 <;> cases o4
      all_goals
        simp only [Bool.true_or, Bool.or_true, Bool.false_or, Bool.or_false, Bool.true_and, Bool.and_true, Bool.false_and, Bool.and_false] at hR
        subst hR
        go_wp2_with (first | (go_at_call 73; ((with_reducible refine (O3.out _).mono ?_); rintro e w1 ⟨rfl, hb1⟩; have hs1 := hb1.size; (try simp at hs1); (first | have hk4 := call_facts hl3 hb1 (by first | omega | (simp; done) | (simp; omega)) | skip); (first | have hk3 := call_facts hl2 hb1 (by first | omega | (simp; done) | (simp; omega)) | skip); (first | have hk2 := call_facts hl1 hb1 (by first | omega | (simp; done) | (simp; omega)) | skip); have hk1 := call_facts (fun b h => h) hb1 (Nat.le_refl _); (first | have hl4 := hk4.1 | skip); (first | have hl3 := hk3.1 | skip); (first | have hl2 := hk2.1 | skip); have hl1 := hk1.1)) | (go_at_call 73; ((with_reducible refine (O4.out _).mono ?_); rintro e w1 ⟨rfl, hb1⟩; have hs1 := hb1.size; (try simp at hs1); (first | have hk4 := call_facts hl3 hb1 (by first | omega | (simp; done) | (simp; omega)) | skip); (first | have hk3 := call_facts hl2 hb1 (by first | omega | (simp; done) | (simp; omega)) | skip); (first | have hk2 := call_facts hl1 hb1 (by first | omega | (simp; done) | (simp; omega)) | skip); have hk1 := call_facts (fun b h => h) hb1 (Nat.le_refl _); (first | have hl4 := hk4.1 | skip); (first | have hl3 := hk3.1 | skip); (first | have hl2 := hk2.1 | skip); have hl1 := hk1.1)))
        first | (go_ret; exact ⟨rfl, (by repeat (first | exact Below.refl _ _ | assumption | refine Below.drew ?_ | refine below_drewN ?_ _ | refine Below.alloc ?_ (by first | omega | (simp; done) | (simp; omega)) _ | refine Below.setCell ?_ (by first | omega | (simp; done) | (simp; omega)) _ | refine Below.trans ?_ (Below.mono (by assumption) (by first | omega | (simp; done) | (simp; omega)))))⟩) | (first | exact bodyPost_ret (v := .tuple #[.bool true, .bool true]) (by simp [results, Try.results28, go_sem, *]) rfl ⟨rfl, (by repeat (first | exact Below.refl _ _ | assumption | refine Below.drew ?_ | refine below_drewN ?_ _ | refine Below.alloc ?_ (by first | omega | (simp; done) | (simp; omega)) _ | refine Below.setCell ?_ (by first | omega | (simp; done) | (simp; omega)) _ | refine Below.trans ?_ (Below.mono (by assumption) (by first | omega | (simp; done) | (simp; omega)))))⟩ | exact bodyPost_ret (v := .tuple #[.bool false, .bool true]) (by simp [results, Try.results28, go_sem, *]) rfl ⟨rfl, (by repeat (first | exact Below.refl _ _ | assumption | refine Below.drew ?_ | refine below_drewN ?_ _ | refine Below.alloc ?_ (by first | omega | (simp; done) | (simp; omega)) _ | refine Below.setCell ?_ (by first | omega | (simp; done) | (simp; omega)) _ | refine Below.trans ?_ (Below.mono (by assumption) (by first | omega | (simp; done) | (simp; omega)))))⟩)
theorem cross_any (x1 y1 x2 y2 n x3 y3 x4 y4 m : Int) (w : World) :
    Calls Try.prog 29 #[.agg #[.int .i64 x1, .int .i64 y1, .int .i64 x2, .int .i64 y2, .int .i64 n], .agg #[.int .i64 x3, .int .i64 y3, .int .i64 x4, .int .i64 y4, .int .i64 m]] w fun e w' => e = .returned (.tuple #[.bool (gtog x1 y1 x2 y2 n x3 y3 x4 y4 m && crs x1 y1 x2 y2 n x3 y3 x4 y4 m), .bool (gtog x1 y1 x2 y2 n x3 y3 x4 y4 m)]) ∧ Below w.heap.size w w' := by
  cases h : gtog x1 y1 x2 y2 n x3 y3 x4 y4 m
  · rw [← h]; exact cross_no x1 y1 x2 y2 n x3 y3 x4 y4 m h w
  · rw [← h]; exact cross_yes x1 y1 x2 y2 n x3 y3 x4 y4 m h w
theorem specCross_any (x1 y1 x2 y2 n x3 y3 x4 y4 m : Int) (w : World) :
    Calls Try.prog 28 #[.agg #[.int .i64 x1, .int .i64 y1, .int .i64 x2, .int .i64 y2, .int .i64 n], .agg #[.int .i64 x3, .int .i64 y3, .int .i64 x4, .int .i64 y4, .int .i64 m]] w fun e w' => e = .returned (.tuple #[.bool (gtog x1 y1 x2 y2 n x3 y3 x4 y4 m && crs x1 y1 x2 y2 n x3 y3 x4 y4 m), .bool (gtog x1 y1 x2 y2 n x3 y3 x4 y4 m)]) ∧ Below w.heap.size w w' := by
  cases h : gtog x1 y1 x2 y2 n x3 y3 x4 y4 m
  · rw [← h]; exact specCross_no x1 y1 x2 y2 n x3 y3 x4 y4 m h w
  · rw [← h]; exact specCross_yes x1 y1 x2 y2 n x3 y3 x4 y4 m h w

end Go.Proofs.Ytjojjmmdgldcbaa
