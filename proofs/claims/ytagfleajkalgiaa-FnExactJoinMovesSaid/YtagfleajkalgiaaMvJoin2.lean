/- Joined moves, spec: the other cases. No conditions but those written in each theorem. -/
import Derived.Test.YtagfleajkalgiaaMvJoin
import Derived.Deep.RegionHeld3
import Derived.Deep.DrawnRows
import Derived.Deep.DeepCutAuto
import Derived.IntWalk
import Derived.Lib.QuietBelow
namespace Go.Proofs.Ytagfleajkalgiaa
open Go.RowKit Go.Sort


attribute [local go_sem ↓] Go.wp_at_zero Go.wp_at_succ

set_option maxHeartbeats 2000000 in
theorem specJoin_w (x1 y1 x2 y2 n1 x3 y3 x4 y4 n2 : Int)  (h1 : isMv x1 y1 x2 y2 n1 = true) (h2 : isMv x3 y3 x4 y4 n2 = true) (h3 : isMv x1 y1 x4 y4 (n1 + n2) = true) (he : x2 = x3 ∧ y2 = y3) (h4 : (wh (px x1 x4 (n1 + n2) n1) (n1 + n2) && wh (px y1 y4 (n1 + n2) n1) (n1 + n2)) = false) (w : World) :
    Calls Try.prog 27 #[.agg #[.int .i64 x1, .int .i64 y1, .int .i64 x2, .int .i64 y2, .int .i64 n1], .agg #[.int .i64 x3, .int .i64 y3, .int .i64 x4, .int .i64 y4, .int .i64 n2]] w fun e w' => e = .returned (.tuple #[.agg #[.int .i64 (guardI (joOk x1 y1 x2 y2 n1 x3 y3 x4 y4 n2) x1), .int .i64 (guardI (joOk x1 y1 x2 y2 n1 x3 y3 x4 y4 n2) y1), .int .i64 (guardI (joOk x1 y1 x2 y2 n1 x3 y3 x4 y4 n2) x4), .int .i64 (guardI (joOk x1 y1 x2 y2 n1 x3 y3 x4 y4 n2) y4), .int .i64 (guardI (joOk x1 y1 x2 y2 n1 x3 y3 x4 y4 n2) (n1 + n2))], .bool (joOk x1 y1 x2 y2 n1 x3 y3 x4 y4 n2)]) ∧ Below w.heap.size w w' := by
  have hs : ∃ s, IntKind.i64.wrap (n1 + n2) = s := ⟨_, rfl⟩
  obtain ⟨s, hs⟩ := hs
  have Hs := Lib.hid hs
  have HMA := Lib.hid (fun W => mvGood_any x1 y1 x2 y2 n1 W)
  have HMB := Lib.hid (fun W => mvGood_any x3 y3 x4 y4 n2 W)
  obtain ⟨_, _, n0, n3⟩ := isMv_iff.1 h1
  obtain ⟨_, _, m0, m3⟩ := isMv_iff.1 h2
  have hsn : s = n1 + n2 := by rw [← hs]; exact IntWalk.i64_in _ (by omega)
  rw [joOk_s (spOk_join n0 m0 h3 h4)]
  obtain ⟨rfl, rfl⟩ := he
  rw [h1] at HMA
  rw [h2] at HMB
  have HMM := Lib.hid (fun W => mvGood_any x1 y1 x4 y4 (n1 + n2) W)
  rw [h3] at HMM
  have HWH := Lib.hid (fun W => mvWhole_any x1 y1 x4 y4 (n1 + n2) n1 h3 (by omega) (by omega) W)
  rw [h4] at HWH
  rw [← hsn] at HMM HWH
  clear h1 h2 h3 h4 hsn n0 n3 m0 m3
  go_enter Try.func27, Try.ntmps27
  go_upto_region 2 with fail
  obtain ⟨W, hW⟩ : ∃ W, W = ((((w.alloc (.cells #[.int .i64 x1, .int .i64 y1, .int .i64 x2, .int .i64 y2, .int .i64 n1] 29)).alloc (.cells #[.int .i64 x2, .int .i64 y2, .int .i64 x4, .int .i64 y4, .int .i64 n2] 29)).alloc (.cells #[.int .i64 0, .int .i64 0, .int .i64 0, .int .i64 0, .int .i64 0] 29)).alloc (.cells #[.int .i64 x1, .int .i64 y1, .int .i64 x4, .int .i64 y4, .int .i64 s] 29)) := ⟨_, rfl⟩
  rw [← hW]
  have ac0 : W.cell? ⟨w.heap.size, 0, none⟩ = some (.int .i64 x1) := by rw [hW]; go_simp
  have ac1 : W.cell? ⟨w.heap.size, 1, none⟩ = some (.int .i64 y1) := by rw [hW]; go_simp
  have ac2 : W.cell? ⟨w.heap.size, 2, none⟩ = some (.int .i64 x2) := by rw [hW]; go_simp
  have ac3 : W.cell? ⟨w.heap.size, 3, none⟩ = some (.int .i64 y2) := by rw [hW]; go_simp
  have ac4 : W.cell? ⟨w.heap.size, 4, none⟩ = some (.int .i64 n1) := by rw [hW]; go_simp
  have bc0 : W.cell? ⟨w.heap.size + 1, 0, none⟩ = some (.int .i64 x2) := by rw [hW]; go_simp
  have bc1 : W.cell? ⟨w.heap.size + 1, 1, none⟩ = some (.int .i64 y2) := by rw [hW]; go_simp
  have bc2 : W.cell? ⟨w.heap.size + 1, 2, none⟩ = some (.int .i64 x4) := by rw [hW]; go_simp
  have bc3 : W.cell? ⟨w.heap.size + 1, 3, none⟩ = some (.int .i64 y4) := by rw [hW]; go_simp
  have bc4 : W.cell? ⟨w.heap.size + 1, 4, none⟩ = some (.int .i64 n2) := by rw [hW]; go_simp
  have zc0 : W.cell? ⟨w.heap.size + 1 + 1, 0, none⟩ = some (.int .i64 0) := by rw [hW]; go_simp
  have zc1 : W.cell? ⟨w.heap.size + 1 + 1, 1, none⟩ = some (.int .i64 0) := by rw [hW]; go_simp
  have zc2 : W.cell? ⟨w.heap.size + 1 + 1, 2, none⟩ = some (.int .i64 0) := by rw [hW]; go_simp
  have zc3 : W.cell? ⟨w.heap.size + 1 + 1, 3, none⟩ = some (.int .i64 0) := by rw [hW]; go_simp
  have zc4 : W.cell? ⟨w.heap.size + 1 + 1, 4, none⟩ = some (.int .i64 0) := by rw [hW]; go_simp
  have mc0 : W.cell? ⟨w.heap.size + 1 + 1 + 1, 0, none⟩ = some (.int .i64 x1) := by rw [hW]; go_simp
  have mc1 : W.cell? ⟨w.heap.size + 1 + 1 + 1, 1, none⟩ = some (.int .i64 y1) := by rw [hW]; go_simp
  have mc2 : W.cell? ⟨w.heap.size + 1 + 1 + 1, 2, none⟩ = some (.int .i64 x4) := by rw [hW]; go_simp
  have mc3 : W.cell? ⟨w.heap.size + 1 + 1 + 1, 3, none⟩ = some (.int .i64 y4) := by rw [hW]; go_simp
  have mc4 : W.cell? ⟨w.heap.size + 1 + 1 + 1, 4, none⟩ = some (.int .i64 s) := by rw [hW]; go_simp
  have fz0 : W.frozen? ⟨w.heap.size + 1 + 1, 0, none⟩ = false := by rw [hW]; go_simp
  have fz1 : W.frozen? ⟨w.heap.size + 1 + 1, 1, none⟩ = false := by rw [hW]; go_simp
  have fz2 : W.frozen? ⟨w.heap.size + 1 + 1, 2, none⟩ = false := by rw [hW]; go_simp
  have fz3 : W.frozen? ⟨w.heap.size + 1 + 1, 3, none⟩ = false := by rw [hW]; go_simp
  have fz4 : W.frozen? ⟨w.heap.size + 1 + 1, 4, none⟩ = false := by rw [hW]; go_simp
  have hWb : Below w.heap.size w W := by rw [hW]; exact (by repeat (first | exact Below.refl _ _ | assumption | refine Below.drew ?_ | refine below_drewN ?_ _ | refine Below.alloc ?_ (by first | omega | (simp; done) | (simp; omega)) _ | refine Below.setCell ?_ (by first | omega | (simp; done) | (simp; omega)) _ | refine Below.trans ?_ (Below.mono (by assumption) (by first | omega | (simp; done) | (simp; omega)))))
  have hWs : W.heap.size = w.heap.size + 1 + 1 + 1 + 1 := by rw [hW]; simp
  clear hW
  have rgac0 := fun d os => cell_regrown ac0 d os
  have rgac1 := fun d os => cell_regrown ac1 d os
  have rgac2 := fun d os => cell_regrown ac2 d os
  have rgac3 := fun d os => cell_regrown ac3 d os
  have rgac4 := fun d os => cell_regrown ac4 d os
  have rgbc0 := fun d os => cell_regrown bc0 d os
  have rgbc1 := fun d os => cell_regrown bc1 d os
  have rgbc2 := fun d os => cell_regrown bc2 d os
  have rgbc3 := fun d os => cell_regrown bc3 d os
  have rgbc4 := fun d os => cell_regrown bc4 d os
  have rgmc0 := fun d os => cell_regrown mc0 d os
  have rgmc1 := fun d os => cell_regrown mc1 d os
  have rgmc2 := fun d os => cell_regrown mc2 d os
  have rgmc3 := fun d os => cell_regrown mc3 d os
  have rgmc4 := fun d os => cell_regrown mc4 d os
  refine wp_region_quiet_below (by kernel_rfl) (by kernel_rfl) ?_
  repeat (quiet_step (first | (with_reducible exact Calls.regrown_of (HMA.out _)) | (with_reducible exact Calls.regrown_of (HMB.out _)) | (with_reducible exact Calls.regrown_of (HMM.out _)) | (with_reducible exact Calls.regrown_of (HWH.out _))))
  refine wpQuiet_nil ?_
  intro _ hw'
  obtain ⟨⟨dq, osq⟩, hw''⟩ := hw'
  subst hw''
  have hq := below_regrown W dq osq
  generalize grow (redrawn W dq) osq = W2 at hq ⊢
  have zd0 : W2.cell? ⟨w.heap.size + 1 + 1, 0, none⟩ = some (.int .i64 0) := (hq.cell (p := ⟨w.heap.size + 1 + 1, 0, none⟩) (by first | omega | (simp; done) | (simp; omega))).trans zc0
  have zd1 : W2.cell? ⟨w.heap.size + 1 + 1, 1, none⟩ = some (.int .i64 0) := (hq.cell (p := ⟨w.heap.size + 1 + 1, 1, none⟩) (by first | omega | (simp; done) | (simp; omega))).trans zc1
  have zd2 : W2.cell? ⟨w.heap.size + 1 + 1, 2, none⟩ = some (.int .i64 0) := (hq.cell (p := ⟨w.heap.size + 1 + 1, 2, none⟩) (by first | omega | (simp; done) | (simp; omega))).trans zc2
  have zd3 : W2.cell? ⟨w.heap.size + 1 + 1, 3, none⟩ = some (.int .i64 0) := (hq.cell (p := ⟨w.heap.size + 1 + 1, 3, none⟩) (by first | omega | (simp; done) | (simp; omega))).trans zc3
  have zd4 : W2.cell? ⟨w.heap.size + 1 + 1, 4, none⟩ = some (.int .i64 0) := (hq.cell (p := ⟨w.heap.size + 1 + 1, 4, none⟩) (by first | omega | (simp; done) | (simp; omega))).trans zc4
  have md0 : W2.cell? ⟨w.heap.size + 1 + 1 + 1, 0, none⟩ = some (.int .i64 x1) := (hq.cell (p := ⟨w.heap.size + 1 + 1 + 1, 0, none⟩) (by first | omega | (simp; done) | (simp; omega))).trans mc0
  have md1 : W2.cell? ⟨w.heap.size + 1 + 1 + 1, 1, none⟩ = some (.int .i64 y1) := (hq.cell (p := ⟨w.heap.size + 1 + 1 + 1, 1, none⟩) (by first | omega | (simp; done) | (simp; omega))).trans mc1
  have md2 : W2.cell? ⟨w.heap.size + 1 + 1 + 1, 2, none⟩ = some (.int .i64 x4) := (hq.cell (p := ⟨w.heap.size + 1 + 1 + 1, 2, none⟩) (by first | omega | (simp; done) | (simp; omega))).trans mc2
  have md3 : W2.cell? ⟨w.heap.size + 1 + 1 + 1, 3, none⟩ = some (.int .i64 y4) := (hq.cell (p := ⟨w.heap.size + 1 + 1 + 1, 3, none⟩) (by first | omega | (simp; done) | (simp; omega))).trans mc3
  have md4 : W2.cell? ⟨w.heap.size + 1 + 1 + 1, 4, none⟩ = some (.int .i64 s) := (hq.cell (p := ⟨w.heap.size + 1 + 1 + 1, 4, none⟩) (by first | omega | (simp; done) | (simp; omega))).trans mc4
  have fy0 : W2.frozen? ⟨w.heap.size + 1 + 1, 0, none⟩ = false := (hq.frozen (p := ⟨w.heap.size + 1 + 1, 0, none⟩) (by first | omega | (simp; done) | (simp; omega))).trans fz0
  have fy1 : W2.frozen? ⟨w.heap.size + 1 + 1, 1, none⟩ = false := (hq.frozen (p := ⟨w.heap.size + 1 + 1, 1, none⟩) (by first | omega | (simp; done) | (simp; omega))).trans fz1
  have fy2 : W2.frozen? ⟨w.heap.size + 1 + 1, 2, none⟩ = false := (hq.frozen (p := ⟨w.heap.size + 1 + 1, 2, none⟩) (by first | omega | (simp; done) | (simp; omega))).trans fz2
  have fy3 : W2.frozen? ⟨w.heap.size + 1 + 1, 3, none⟩ = false := (hq.frozen (p := ⟨w.heap.size + 1 + 1, 3, none⟩) (by first | omega | (simp; done) | (simp; omega))).trans fz3
  have fy4 : W2.frozen? ⟨w.heap.size + 1 + 1, 4, none⟩ = false := (hq.frozen (p := ⟨w.heap.size + 1 + 1, 4, none⟩) (by first | omega | (simp; done) | (simp; omega))).trans fz4
  have hB2 : Below w.heap.size w W2 := hWb.trans (hq.mono (by omega))
  clear hq rgac0 rgac1 rgac2 rgac3 rgac4 rgbc0 rgbc1 rgbc2 rgbc3 rgbc4 rgmc0 rgmc1 rgmc2 rgmc3 rgmc4 ac0 ac1 ac2 ac3 ac4 bc0 bc1 bc2 bc3 bc4 zc0 zc1 zc2 zc3 zc4 mc0 mc1 mc2 mc3 mc4
  go_wp2
  first | exact bodyPost_ret (v := .tuple #[.agg #[.int .i64 0, .int .i64 0, .int .i64 0, .int .i64 0, .int .i64 0], .bool false]) (by simp [results, Try.results27, go_sem, *]) rfl ⟨rfl, (by repeat (first | with_reducible exact Below.refl _ _ | with_reducible assumption | with_reducible refine Below.drew ?_ | with_reducible refine below_drewN ?_ _ | with_reducible refine Below.alloc ?_ (by first | omega | (simp; done) | (simp; omega)) _ | with_reducible refine Below.setCell ?_ (by first | omega | (simp; done) | (simp; omega)) _ | with_reducible refine Below.trans ?_ (Below.mono (by assumption) (by first | omega | (simp; done) | (simp; omega)))))⟩

set_option maxHeartbeats 2000000 in
theorem specJoin_r1 (x1 y1 x2 y2 n1 x3 y3 x4 y4 n2 : Int)  (h1 : isMv x1 y1 x2 y2 n1 = true) (h2 : isMv x3 y3 x4 y4 n2 = true) (h3 : isMv x1 y1 x4 y4 (n1 + n2) = true) (he : x2 = x3 ∧ y2 = y3) (h4 : (wh (px x1 x4 (n1 + n2) n1) (n1 + n2) && wh (px y1 y4 (n1 + n2) n1) (n1 + n2)) = true) (h5 : ¬ ((px x1 x4 (n1 + n2) n1).tdiv (n1 + n2)) = x2) (w : World) :
    Calls Try.prog 27 #[.agg #[.int .i64 x1, .int .i64 y1, .int .i64 x2, .int .i64 y2, .int .i64 n1], .agg #[.int .i64 x3, .int .i64 y3, .int .i64 x4, .int .i64 y4, .int .i64 n2]] w fun e w' => e = .returned (.tuple #[.agg #[.int .i64 (guardI (joOk x1 y1 x2 y2 n1 x3 y3 x4 y4 n2) x1), .int .i64 (guardI (joOk x1 y1 x2 y2 n1 x3 y3 x4 y4 n2) y1), .int .i64 (guardI (joOk x1 y1 x2 y2 n1 x3 y3 x4 y4 n2) x4), .int .i64 (guardI (joOk x1 y1 x2 y2 n1 x3 y3 x4 y4 n2) y4), .int .i64 (guardI (joOk x1 y1 x2 y2 n1 x3 y3 x4 y4 n2) (n1 + n2))], .bool (joOk x1 y1 x2 y2 n1 x3 y3 x4 y4 n2)]) ∧ Below w.heap.size w w' := by
  have hs : ∃ s, IntKind.i64.wrap (n1 + n2) = s := ⟨_, rfl⟩
  obtain ⟨s, hs⟩ := hs
  have Hs := Lib.hid hs
  have HMA := Lib.hid (fun W => mvGood_any x1 y1 x2 y2 n1 W)
  have HMB := Lib.hid (fun W => mvGood_any x3 y3 x4 y4 n2 W)
  obtain ⟨_, _, n0, n3⟩ := isMv_iff.1 h1
  obtain ⟨_, _, m0, m3⟩ := isMv_iff.1 h2
  have hsn : s = n1 + n2 := by rw [← hs]; exact IntWalk.i64_in _ (by omega)
  rw [joOk_d (fun c => h5 c.1)]
  obtain ⟨rfl, rfl⟩ := he
  rw [h1] at HMA
  rw [h2] at HMB
  have HMM := Lib.hid (fun W => mvGood_any x1 y1 x4 y4 (n1 + n2) W)
  rw [h3] at HMM
  have HWH := Lib.hid (fun W => mvWhole_any x1 y1 x4 y4 (n1 + n2) n1 h3 (by omega) (by omega) W)
  rw [h4] at HWH
  have HRD := Lib.hid (fun W => mvRound_any x1 y1 x4 y4 (n1 + n2) n1 h3 (by omega) (by omega) W)
  obtain ⟨⟨e0, e1⟩, ⟨p0, p1⟩, ⟨r0, r1⟩⟩ := mv_facts h3 (show 0 ≤ n1 by omega) (show n1 ≤ n1 + n2 by omega)
  obtain ⟨wa, wb⟩ := (by simpa using h4 : wh (px x1 x4 (n1 + n2) n1) (n1 + n2) = true ∧ wh (px y1 y4 (n1 + n2) n1) (n1 + n2) = true)
  rw [wh_quo p0 e0 wa, wh_quo r0 e0 wb] at HRD
  obtain ⟨U, hU⟩ : ∃ U, U = ((px x1 x4 (n1 + n2) n1).tdiv (n1 + n2)) := ⟨_, rfl⟩
  obtain ⟨V, hV⟩ : ∃ V, V = ((px y1 y4 (n1 + n2) n1).tdiv (n1 + n2)) := ⟨_, rfl⟩
  rw [← hU, ← hV] at HRD
  rw [← hU] at h5
  clear e0 e1 p0 p1 r0 r1 wa wb hU hV
  rw [← hsn] at HMM HWH HRD
  clear h1 h2 h3 h4 hsn n0 n3 m0 m3
  go_enter Try.func27, Try.ntmps27
  go_upto_region 2 with fail
  obtain ⟨W, hW⟩ : ∃ W, W = ((((w.alloc (.cells #[.int .i64 x1, .int .i64 y1, .int .i64 x2, .int .i64 y2, .int .i64 n1] 29)).alloc (.cells #[.int .i64 x2, .int .i64 y2, .int .i64 x4, .int .i64 y4, .int .i64 n2] 29)).alloc (.cells #[.int .i64 0, .int .i64 0, .int .i64 0, .int .i64 0, .int .i64 0] 29)).alloc (.cells #[.int .i64 x1, .int .i64 y1, .int .i64 x4, .int .i64 y4, .int .i64 s] 29)) := ⟨_, rfl⟩
  rw [← hW]
  have ac0 : W.cell? ⟨w.heap.size, 0, none⟩ = some (.int .i64 x1) := by rw [hW]; go_simp
  have ac1 : W.cell? ⟨w.heap.size, 1, none⟩ = some (.int .i64 y1) := by rw [hW]; go_simp
  have ac2 : W.cell? ⟨w.heap.size, 2, none⟩ = some (.int .i64 x2) := by rw [hW]; go_simp
  have ac3 : W.cell? ⟨w.heap.size, 3, none⟩ = some (.int .i64 y2) := by rw [hW]; go_simp
  have ac4 : W.cell? ⟨w.heap.size, 4, none⟩ = some (.int .i64 n1) := by rw [hW]; go_simp
  have bc0 : W.cell? ⟨w.heap.size + 1, 0, none⟩ = some (.int .i64 x2) := by rw [hW]; go_simp
  have bc1 : W.cell? ⟨w.heap.size + 1, 1, none⟩ = some (.int .i64 y2) := by rw [hW]; go_simp
  have bc2 : W.cell? ⟨w.heap.size + 1, 2, none⟩ = some (.int .i64 x4) := by rw [hW]; go_simp
  have bc3 : W.cell? ⟨w.heap.size + 1, 3, none⟩ = some (.int .i64 y4) := by rw [hW]; go_simp
  have bc4 : W.cell? ⟨w.heap.size + 1, 4, none⟩ = some (.int .i64 n2) := by rw [hW]; go_simp
  have zc0 : W.cell? ⟨w.heap.size + 1 + 1, 0, none⟩ = some (.int .i64 0) := by rw [hW]; go_simp
  have zc1 : W.cell? ⟨w.heap.size + 1 + 1, 1, none⟩ = some (.int .i64 0) := by rw [hW]; go_simp
  have zc2 : W.cell? ⟨w.heap.size + 1 + 1, 2, none⟩ = some (.int .i64 0) := by rw [hW]; go_simp
  have zc3 : W.cell? ⟨w.heap.size + 1 + 1, 3, none⟩ = some (.int .i64 0) := by rw [hW]; go_simp
  have zc4 : W.cell? ⟨w.heap.size + 1 + 1, 4, none⟩ = some (.int .i64 0) := by rw [hW]; go_simp
  have mc0 : W.cell? ⟨w.heap.size + 1 + 1 + 1, 0, none⟩ = some (.int .i64 x1) := by rw [hW]; go_simp
  have mc1 : W.cell? ⟨w.heap.size + 1 + 1 + 1, 1, none⟩ = some (.int .i64 y1) := by rw [hW]; go_simp
  have mc2 : W.cell? ⟨w.heap.size + 1 + 1 + 1, 2, none⟩ = some (.int .i64 x4) := by rw [hW]; go_simp
  have mc3 : W.cell? ⟨w.heap.size + 1 + 1 + 1, 3, none⟩ = some (.int .i64 y4) := by rw [hW]; go_simp
  have mc4 : W.cell? ⟨w.heap.size + 1 + 1 + 1, 4, none⟩ = some (.int .i64 s) := by rw [hW]; go_simp
  have fz0 : W.frozen? ⟨w.heap.size + 1 + 1, 0, none⟩ = false := by rw [hW]; go_simp
  have fz1 : W.frozen? ⟨w.heap.size + 1 + 1, 1, none⟩ = false := by rw [hW]; go_simp
  have fz2 : W.frozen? ⟨w.heap.size + 1 + 1, 2, none⟩ = false := by rw [hW]; go_simp
  have fz3 : W.frozen? ⟨w.heap.size + 1 + 1, 3, none⟩ = false := by rw [hW]; go_simp
  have fz4 : W.frozen? ⟨w.heap.size + 1 + 1, 4, none⟩ = false := by rw [hW]; go_simp
  have hWb : Below w.heap.size w W := by rw [hW]; exact (by repeat (first | exact Below.refl _ _ | assumption | refine Below.drew ?_ | refine below_drewN ?_ _ | refine Below.alloc ?_ (by first | omega | (simp; done) | (simp; omega)) _ | refine Below.setCell ?_ (by first | omega | (simp; done) | (simp; omega)) _ | refine Below.trans ?_ (Below.mono (by assumption) (by first | omega | (simp; done) | (simp; omega)))))
  have hWs : W.heap.size = w.heap.size + 1 + 1 + 1 + 1 := by rw [hW]; simp
  clear hW
  have rgac0 := fun d os => cell_regrown ac0 d os
  have rgac1 := fun d os => cell_regrown ac1 d os
  have rgac2 := fun d os => cell_regrown ac2 d os
  have rgac3 := fun d os => cell_regrown ac3 d os
  have rgac4 := fun d os => cell_regrown ac4 d os
  have rgbc0 := fun d os => cell_regrown bc0 d os
  have rgbc1 := fun d os => cell_regrown bc1 d os
  have rgbc2 := fun d os => cell_regrown bc2 d os
  have rgbc3 := fun d os => cell_regrown bc3 d os
  have rgbc4 := fun d os => cell_regrown bc4 d os
  have rgmc0 := fun d os => cell_regrown mc0 d os
  have rgmc1 := fun d os => cell_regrown mc1 d os
  have rgmc2 := fun d os => cell_regrown mc2 d os
  have rgmc3 := fun d os => cell_regrown mc3 d os
  have rgmc4 := fun d os => cell_regrown mc4 d os
  refine wp_region_quiet_below (by kernel_rfl) (by kernel_rfl) ?_
  repeat (quiet_step (first | (with_reducible exact Calls.regrown_of (HMA.out _)) | (with_reducible exact Calls.regrown_of (HMB.out _)) | (with_reducible exact Calls.regrown_of (HMM.out _)) | (with_reducible exact Calls.regrown_of (HWH.out _)) | (with_reducible exact Calls.regrown_of (HRD.out _))))
  refine wpQuiet_nil ?_
  intro _ hw'
  obtain ⟨⟨dq, osq⟩, hw''⟩ := hw'
  subst hw''
  have hq := below_regrown W dq osq
  generalize grow (redrawn W dq) osq = W2 at hq ⊢
  have zd0 : W2.cell? ⟨w.heap.size + 1 + 1, 0, none⟩ = some (.int .i64 0) := (hq.cell (p := ⟨w.heap.size + 1 + 1, 0, none⟩) (by first | omega | (simp; done) | (simp; omega))).trans zc0
  have zd1 : W2.cell? ⟨w.heap.size + 1 + 1, 1, none⟩ = some (.int .i64 0) := (hq.cell (p := ⟨w.heap.size + 1 + 1, 1, none⟩) (by first | omega | (simp; done) | (simp; omega))).trans zc1
  have zd2 : W2.cell? ⟨w.heap.size + 1 + 1, 2, none⟩ = some (.int .i64 0) := (hq.cell (p := ⟨w.heap.size + 1 + 1, 2, none⟩) (by first | omega | (simp; done) | (simp; omega))).trans zc2
  have zd3 : W2.cell? ⟨w.heap.size + 1 + 1, 3, none⟩ = some (.int .i64 0) := (hq.cell (p := ⟨w.heap.size + 1 + 1, 3, none⟩) (by first | omega | (simp; done) | (simp; omega))).trans zc3
  have zd4 : W2.cell? ⟨w.heap.size + 1 + 1, 4, none⟩ = some (.int .i64 0) := (hq.cell (p := ⟨w.heap.size + 1 + 1, 4, none⟩) (by first | omega | (simp; done) | (simp; omega))).trans zc4
  have md0 : W2.cell? ⟨w.heap.size + 1 + 1 + 1, 0, none⟩ = some (.int .i64 x1) := (hq.cell (p := ⟨w.heap.size + 1 + 1 + 1, 0, none⟩) (by first | omega | (simp; done) | (simp; omega))).trans mc0
  have md1 : W2.cell? ⟨w.heap.size + 1 + 1 + 1, 1, none⟩ = some (.int .i64 y1) := (hq.cell (p := ⟨w.heap.size + 1 + 1 + 1, 1, none⟩) (by first | omega | (simp; done) | (simp; omega))).trans mc1
  have md2 : W2.cell? ⟨w.heap.size + 1 + 1 + 1, 2, none⟩ = some (.int .i64 x4) := (hq.cell (p := ⟨w.heap.size + 1 + 1 + 1, 2, none⟩) (by first | omega | (simp; done) | (simp; omega))).trans mc2
  have md3 : W2.cell? ⟨w.heap.size + 1 + 1 + 1, 3, none⟩ = some (.int .i64 y4) := (hq.cell (p := ⟨w.heap.size + 1 + 1 + 1, 3, none⟩) (by first | omega | (simp; done) | (simp; omega))).trans mc3
  have md4 : W2.cell? ⟨w.heap.size + 1 + 1 + 1, 4, none⟩ = some (.int .i64 s) := (hq.cell (p := ⟨w.heap.size + 1 + 1 + 1, 4, none⟩) (by first | omega | (simp; done) | (simp; omega))).trans mc4
  have fy0 : W2.frozen? ⟨w.heap.size + 1 + 1, 0, none⟩ = false := (hq.frozen (p := ⟨w.heap.size + 1 + 1, 0, none⟩) (by first | omega | (simp; done) | (simp; omega))).trans fz0
  have fy1 : W2.frozen? ⟨w.heap.size + 1 + 1, 1, none⟩ = false := (hq.frozen (p := ⟨w.heap.size + 1 + 1, 1, none⟩) (by first | omega | (simp; done) | (simp; omega))).trans fz1
  have fy2 : W2.frozen? ⟨w.heap.size + 1 + 1, 2, none⟩ = false := (hq.frozen (p := ⟨w.heap.size + 1 + 1, 2, none⟩) (by first | omega | (simp; done) | (simp; omega))).trans fz2
  have fy3 : W2.frozen? ⟨w.heap.size + 1 + 1, 3, none⟩ = false := (hq.frozen (p := ⟨w.heap.size + 1 + 1, 3, none⟩) (by first | omega | (simp; done) | (simp; omega))).trans fz3
  have fy4 : W2.frozen? ⟨w.heap.size + 1 + 1, 4, none⟩ = false := (hq.frozen (p := ⟨w.heap.size + 1 + 1, 4, none⟩) (by first | omega | (simp; done) | (simp; omega))).trans fz4
  have hB2 : Below w.heap.size w W2 := hWb.trans (hq.mono (by omega))
  clear hq rgac0 rgac1 rgac2 rgac3 rgac4 rgbc0 rgbc1 rgbc2 rgbc3 rgbc4 rgmc0 rgmc1 rgmc2 rgmc3 rgmc4 ac0 ac1 ac2 ac3 ac4 bc0 bc1 bc2 bc3 bc4 zc0 zc1 zc2 zc3 zc4 mc0 mc1 mc2 mc3 mc4
  go_wp2
  first | exact bodyPost_ret (v := .tuple #[.agg #[.int .i64 0, .int .i64 0, .int .i64 0, .int .i64 0, .int .i64 0], .bool false]) (by simp [results, Try.results27, go_sem, *]) rfl ⟨rfl, (by repeat (first | with_reducible exact Below.refl _ _ | with_reducible assumption | with_reducible refine Below.drew ?_ | with_reducible refine below_drewN ?_ _ | with_reducible refine Below.alloc ?_ (by first | omega | (simp; done) | (simp; omega)) _ | with_reducible refine Below.setCell ?_ (by first | omega | (simp; done) | (simp; omega)) _ | with_reducible refine Below.trans ?_ (Below.mono (by assumption) (by first | omega | (simp; done) | (simp; omega)))))⟩

set_option maxHeartbeats 2000000 in
theorem specJoin_r2 (x1 y1 x2 y2 n1 x3 y3 x4 y4 n2 : Int)  (h1 : isMv x1 y1 x2 y2 n1 = true) (h2 : isMv x3 y3 x4 y4 n2 = true) (h3 : isMv x1 y1 x4 y4 (n1 + n2) = true) (he : x2 = x3 ∧ y2 = y3) (h4 : (wh (px x1 x4 (n1 + n2) n1) (n1 + n2) && wh (px y1 y4 (n1 + n2) n1) (n1 + n2)) = true) (h5 : ((px x1 x4 (n1 + n2) n1).tdiv (n1 + n2)) = x2) (hv : ¬ ((px y1 y4 (n1 + n2) n1).tdiv (n1 + n2)) = y2) (w : World) :
    Calls Try.prog 27 #[.agg #[.int .i64 x1, .int .i64 y1, .int .i64 x2, .int .i64 y2, .int .i64 n1], .agg #[.int .i64 x3, .int .i64 y3, .int .i64 x4, .int .i64 y4, .int .i64 n2]] w fun e w' => e = .returned (.tuple #[.agg #[.int .i64 (guardI (joOk x1 y1 x2 y2 n1 x3 y3 x4 y4 n2) x1), .int .i64 (guardI (joOk x1 y1 x2 y2 n1 x3 y3 x4 y4 n2) y1), .int .i64 (guardI (joOk x1 y1 x2 y2 n1 x3 y3 x4 y4 n2) x4), .int .i64 (guardI (joOk x1 y1 x2 y2 n1 x3 y3 x4 y4 n2) y4), .int .i64 (guardI (joOk x1 y1 x2 y2 n1 x3 y3 x4 y4 n2) (n1 + n2))], .bool (joOk x1 y1 x2 y2 n1 x3 y3 x4 y4 n2)]) ∧ Below w.heap.size w w' := by
  have hs : ∃ s, IntKind.i64.wrap (n1 + n2) = s := ⟨_, rfl⟩
  obtain ⟨s, hs⟩ := hs
  have Hs := Lib.hid hs
  have HMA := Lib.hid (fun W => mvGood_any x1 y1 x2 y2 n1 W)
  have HMB := Lib.hid (fun W => mvGood_any x3 y3 x4 y4 n2 W)
  obtain ⟨_, _, n0, n3⟩ := isMv_iff.1 h1
  obtain ⟨_, _, m0, m3⟩ := isMv_iff.1 h2
  have hsn : s = n1 + n2 := by rw [← hs]; exact IntWalk.i64_in _ (by omega)
  rw [joOk_d (fun c => hv c.2.1)]
  obtain ⟨rfl, rfl⟩ := he
  rw [h1] at HMA
  rw [h2] at HMB
  have HMM := Lib.hid (fun W => mvGood_any x1 y1 x4 y4 (n1 + n2) W)
  rw [h3] at HMM
  have HWH := Lib.hid (fun W => mvWhole_any x1 y1 x4 y4 (n1 + n2) n1 h3 (by omega) (by omega) W)
  rw [h4] at HWH
  have HRD := Lib.hid (fun W => mvRound_any x1 y1 x4 y4 (n1 + n2) n1 h3 (by omega) (by omega) W)
  obtain ⟨⟨e0, e1⟩, ⟨p0, p1⟩, ⟨r0, r1⟩⟩ := mv_facts h3 (show 0 ≤ n1 by omega) (show n1 ≤ n1 + n2 by omega)
  obtain ⟨wa, wb⟩ := (by simpa using h4 : wh (px x1 x4 (n1 + n2) n1) (n1 + n2) = true ∧ wh (px y1 y4 (n1 + n2) n1) (n1 + n2) = true)
  rw [wh_quo p0 e0 wa, wh_quo r0 e0 wb] at HRD
  obtain ⟨U, hU⟩ : ∃ U, U = ((px x1 x4 (n1 + n2) n1).tdiv (n1 + n2)) := ⟨_, rfl⟩
  obtain ⟨V, hV⟩ : ∃ V, V = ((px y1 y4 (n1 + n2) n1).tdiv (n1 + n2)) := ⟨_, rfl⟩
  rw [← hU, ← hV] at HRD
  rw [← hU] at h5
  rw [← hV] at hv
  clear e0 e1 p0 p1 r0 r1 wa wb hU hV
  rw [← hsn] at HMM HWH HRD
  clear h1 h2 h3 h4 hsn n0 n3 m0 m3
  rw [h5] at HRD
  clear h5
  go_enter Try.func27, Try.ntmps27
  go_upto_region 2 with fail
  obtain ⟨W, hW⟩ : ∃ W, W = ((((w.alloc (.cells #[.int .i64 x1, .int .i64 y1, .int .i64 x2, .int .i64 y2, .int .i64 n1] 29)).alloc (.cells #[.int .i64 x2, .int .i64 y2, .int .i64 x4, .int .i64 y4, .int .i64 n2] 29)).alloc (.cells #[.int .i64 0, .int .i64 0, .int .i64 0, .int .i64 0, .int .i64 0] 29)).alloc (.cells #[.int .i64 x1, .int .i64 y1, .int .i64 x4, .int .i64 y4, .int .i64 s] 29)) := ⟨_, rfl⟩
  rw [← hW]
  have ac0 : W.cell? ⟨w.heap.size, 0, none⟩ = some (.int .i64 x1) := by rw [hW]; go_simp
  have ac1 : W.cell? ⟨w.heap.size, 1, none⟩ = some (.int .i64 y1) := by rw [hW]; go_simp
  have ac2 : W.cell? ⟨w.heap.size, 2, none⟩ = some (.int .i64 x2) := by rw [hW]; go_simp
  have ac3 : W.cell? ⟨w.heap.size, 3, none⟩ = some (.int .i64 y2) := by rw [hW]; go_simp
  have ac4 : W.cell? ⟨w.heap.size, 4, none⟩ = some (.int .i64 n1) := by rw [hW]; go_simp
  have bc0 : W.cell? ⟨w.heap.size + 1, 0, none⟩ = some (.int .i64 x2) := by rw [hW]; go_simp
  have bc1 : W.cell? ⟨w.heap.size + 1, 1, none⟩ = some (.int .i64 y2) := by rw [hW]; go_simp
  have bc2 : W.cell? ⟨w.heap.size + 1, 2, none⟩ = some (.int .i64 x4) := by rw [hW]; go_simp
  have bc3 : W.cell? ⟨w.heap.size + 1, 3, none⟩ = some (.int .i64 y4) := by rw [hW]; go_simp
  have bc4 : W.cell? ⟨w.heap.size + 1, 4, none⟩ = some (.int .i64 n2) := by rw [hW]; go_simp
  have zc0 : W.cell? ⟨w.heap.size + 1 + 1, 0, none⟩ = some (.int .i64 0) := by rw [hW]; go_simp
  have zc1 : W.cell? ⟨w.heap.size + 1 + 1, 1, none⟩ = some (.int .i64 0) := by rw [hW]; go_simp
  have zc2 : W.cell? ⟨w.heap.size + 1 + 1, 2, none⟩ = some (.int .i64 0) := by rw [hW]; go_simp
  have zc3 : W.cell? ⟨w.heap.size + 1 + 1, 3, none⟩ = some (.int .i64 0) := by rw [hW]; go_simp
  have zc4 : W.cell? ⟨w.heap.size + 1 + 1, 4, none⟩ = some (.int .i64 0) := by rw [hW]; go_simp
  have mc0 : W.cell? ⟨w.heap.size + 1 + 1 + 1, 0, none⟩ = some (.int .i64 x1) := by rw [hW]; go_simp
  have mc1 : W.cell? ⟨w.heap.size + 1 + 1 + 1, 1, none⟩ = some (.int .i64 y1) := by rw [hW]; go_simp
  have mc2 : W.cell? ⟨w.heap.size + 1 + 1 + 1, 2, none⟩ = some (.int .i64 x4) := by rw [hW]; go_simp
  have mc3 : W.cell? ⟨w.heap.size + 1 + 1 + 1, 3, none⟩ = some (.int .i64 y4) := by rw [hW]; go_simp
  have mc4 : W.cell? ⟨w.heap.size + 1 + 1 + 1, 4, none⟩ = some (.int .i64 s) := by rw [hW]; go_simp
  have fz0 : W.frozen? ⟨w.heap.size + 1 + 1, 0, none⟩ = false := by rw [hW]; go_simp
  have fz1 : W.frozen? ⟨w.heap.size + 1 + 1, 1, none⟩ = false := by rw [hW]; go_simp
  have fz2 : W.frozen? ⟨w.heap.size + 1 + 1, 2, none⟩ = false := by rw [hW]; go_simp
  have fz3 : W.frozen? ⟨w.heap.size + 1 + 1, 3, none⟩ = false := by rw [hW]; go_simp
  have fz4 : W.frozen? ⟨w.heap.size + 1 + 1, 4, none⟩ = false := by rw [hW]; go_simp
  have hWb : Below w.heap.size w W := by rw [hW]; exact (by repeat (first | exact Below.refl _ _ | assumption | refine Below.drew ?_ | refine below_drewN ?_ _ | refine Below.alloc ?_ (by first | omega | (simp; done) | (simp; omega)) _ | refine Below.setCell ?_ (by first | omega | (simp; done) | (simp; omega)) _ | refine Below.trans ?_ (Below.mono (by assumption) (by first | omega | (simp; done) | (simp; omega)))))
  have hWs : W.heap.size = w.heap.size + 1 + 1 + 1 + 1 := by rw [hW]; simp
  clear hW
  have rgac0 := fun d os => cell_regrown ac0 d os
  have rgac1 := fun d os => cell_regrown ac1 d os
  have rgac2 := fun d os => cell_regrown ac2 d os
  have rgac3 := fun d os => cell_regrown ac3 d os
  have rgac4 := fun d os => cell_regrown ac4 d os
  have rgbc0 := fun d os => cell_regrown bc0 d os
  have rgbc1 := fun d os => cell_regrown bc1 d os
  have rgbc2 := fun d os => cell_regrown bc2 d os
  have rgbc3 := fun d os => cell_regrown bc3 d os
  have rgbc4 := fun d os => cell_regrown bc4 d os
  have rgmc0 := fun d os => cell_regrown mc0 d os
  have rgmc1 := fun d os => cell_regrown mc1 d os
  have rgmc2 := fun d os => cell_regrown mc2 d os
  have rgmc3 := fun d os => cell_regrown mc3 d os
  have rgmc4 := fun d os => cell_regrown mc4 d os
  refine wp_region_quiet_below (by kernel_rfl) (by kernel_rfl) ?_
  repeat (quiet_step (first | (with_reducible exact Calls.regrown_of (HMA.out _)) | (with_reducible exact Calls.regrown_of (HMB.out _)) | (with_reducible exact Calls.regrown_of (HMM.out _)) | (with_reducible exact Calls.regrown_of (HWH.out _)) | (with_reducible exact Calls.regrown_of (HRD.out _))))
  refine wpQuiet_nil ?_
  intro _ hw'
  obtain ⟨⟨dq, osq⟩, hw''⟩ := hw'
  subst hw''
  have hq := below_regrown W dq osq
  generalize grow (redrawn W dq) osq = W2 at hq ⊢
  have zd0 : W2.cell? ⟨w.heap.size + 1 + 1, 0, none⟩ = some (.int .i64 0) := (hq.cell (p := ⟨w.heap.size + 1 + 1, 0, none⟩) (by first | omega | (simp; done) | (simp; omega))).trans zc0
  have zd1 : W2.cell? ⟨w.heap.size + 1 + 1, 1, none⟩ = some (.int .i64 0) := (hq.cell (p := ⟨w.heap.size + 1 + 1, 1, none⟩) (by first | omega | (simp; done) | (simp; omega))).trans zc1
  have zd2 : W2.cell? ⟨w.heap.size + 1 + 1, 2, none⟩ = some (.int .i64 0) := (hq.cell (p := ⟨w.heap.size + 1 + 1, 2, none⟩) (by first | omega | (simp; done) | (simp; omega))).trans zc2
  have zd3 : W2.cell? ⟨w.heap.size + 1 + 1, 3, none⟩ = some (.int .i64 0) := (hq.cell (p := ⟨w.heap.size + 1 + 1, 3, none⟩) (by first | omega | (simp; done) | (simp; omega))).trans zc3
  have zd4 : W2.cell? ⟨w.heap.size + 1 + 1, 4, none⟩ = some (.int .i64 0) := (hq.cell (p := ⟨w.heap.size + 1 + 1, 4, none⟩) (by first | omega | (simp; done) | (simp; omega))).trans zc4
  have md0 : W2.cell? ⟨w.heap.size + 1 + 1 + 1, 0, none⟩ = some (.int .i64 x1) := (hq.cell (p := ⟨w.heap.size + 1 + 1 + 1, 0, none⟩) (by first | omega | (simp; done) | (simp; omega))).trans mc0
  have md1 : W2.cell? ⟨w.heap.size + 1 + 1 + 1, 1, none⟩ = some (.int .i64 y1) := (hq.cell (p := ⟨w.heap.size + 1 + 1 + 1, 1, none⟩) (by first | omega | (simp; done) | (simp; omega))).trans mc1
  have md2 : W2.cell? ⟨w.heap.size + 1 + 1 + 1, 2, none⟩ = some (.int .i64 x4) := (hq.cell (p := ⟨w.heap.size + 1 + 1 + 1, 2, none⟩) (by first | omega | (simp; done) | (simp; omega))).trans mc2
  have md3 : W2.cell? ⟨w.heap.size + 1 + 1 + 1, 3, none⟩ = some (.int .i64 y4) := (hq.cell (p := ⟨w.heap.size + 1 + 1 + 1, 3, none⟩) (by first | omega | (simp; done) | (simp; omega))).trans mc3
  have md4 : W2.cell? ⟨w.heap.size + 1 + 1 + 1, 4, none⟩ = some (.int .i64 s) := (hq.cell (p := ⟨w.heap.size + 1 + 1 + 1, 4, none⟩) (by first | omega | (simp; done) | (simp; omega))).trans mc4
  have fy0 : W2.frozen? ⟨w.heap.size + 1 + 1, 0, none⟩ = false := (hq.frozen (p := ⟨w.heap.size + 1 + 1, 0, none⟩) (by first | omega | (simp; done) | (simp; omega))).trans fz0
  have fy1 : W2.frozen? ⟨w.heap.size + 1 + 1, 1, none⟩ = false := (hq.frozen (p := ⟨w.heap.size + 1 + 1, 1, none⟩) (by first | omega | (simp; done) | (simp; omega))).trans fz1
  have fy2 : W2.frozen? ⟨w.heap.size + 1 + 1, 2, none⟩ = false := (hq.frozen (p := ⟨w.heap.size + 1 + 1, 2, none⟩) (by first | omega | (simp; done) | (simp; omega))).trans fz2
  have fy3 : W2.frozen? ⟨w.heap.size + 1 + 1, 3, none⟩ = false := (hq.frozen (p := ⟨w.heap.size + 1 + 1, 3, none⟩) (by first | omega | (simp; done) | (simp; omega))).trans fz3
  have fy4 : W2.frozen? ⟨w.heap.size + 1 + 1, 4, none⟩ = false := (hq.frozen (p := ⟨w.heap.size + 1 + 1, 4, none⟩) (by first | omega | (simp; done) | (simp; omega))).trans fz4
  have hB2 : Below w.heap.size w W2 := hWb.trans (hq.mono (by omega))
  clear hq rgac0 rgac1 rgac2 rgac3 rgac4 rgbc0 rgbc1 rgbc2 rgbc3 rgbc4 rgmc0 rgmc1 rgmc2 rgmc3 rgmc4 ac0 ac1 ac2 ac3 ac4 bc0 bc1 bc2 bc3 bc4 zc0 zc1 zc2 zc3 zc4 mc0 mc1 mc2 mc3 mc4
  go_wp2
  first | exact bodyPost_ret (v := .tuple #[.agg #[.int .i64 0, .int .i64 0, .int .i64 0, .int .i64 0, .int .i64 0], .bool false]) (by simp [results, Try.results27, go_sem, *]) rfl ⟨rfl, (by repeat (first | with_reducible exact Below.refl _ _ | with_reducible assumption | with_reducible refine Below.drew ?_ | with_reducible refine below_drewN ?_ _ | with_reducible refine Below.alloc ?_ (by first | omega | (simp; done) | (simp; omega)) _ | with_reducible refine Below.setCell ?_ (by first | omega | (simp; done) | (simp; omega)) _ | with_reducible refine Below.trans ?_ (Below.mono (by assumption) (by first | omega | (simp; done) | (simp; omega)))))⟩

set_option maxHeartbeats 2000000 in
theorem specJoin_y (x1 y1 x2 y2 n1 x3 y3 x4 y4 n2 : Int)  (h1 : isMv x1 y1 x2 y2 n1 = true) (h2 : isMv x3 y3 x4 y4 n2 = true) (h3 : isMv x1 y1 x4 y4 (n1 + n2) = true) (he : x2 = x3 ∧ y2 = y3) (h4 : (wh (px x1 x4 (n1 + n2) n1) (n1 + n2) && wh (px y1 y4 (n1 + n2) n1) (n1 + n2)) = true) (h5 : ((px x1 x4 (n1 + n2) n1).tdiv (n1 + n2)) = x2 ∧ ((px y1 y4 (n1 + n2) n1).tdiv (n1 + n2)) = y2) (w : World) :
    Calls Try.prog 27 #[.agg #[.int .i64 x1, .int .i64 y1, .int .i64 x2, .int .i64 y2, .int .i64 n1], .agg #[.int .i64 x3, .int .i64 y3, .int .i64 x4, .int .i64 y4, .int .i64 n2]] w fun e w' => e = .returned (.tuple #[.agg #[.int .i64 (guardI (joOk x1 y1 x2 y2 n1 x3 y3 x4 y4 n2) x1), .int .i64 (guardI (joOk x1 y1 x2 y2 n1 x3 y3 x4 y4 n2) y1), .int .i64 (guardI (joOk x1 y1 x2 y2 n1 x3 y3 x4 y4 n2) x4), .int .i64 (guardI (joOk x1 y1 x2 y2 n1 x3 y3 x4 y4 n2) y4), .int .i64 (guardI (joOk x1 y1 x2 y2 n1 x3 y3 x4 y4 n2) (n1 + n2))], .bool (joOk x1 y1 x2 y2 n1 x3 y3 x4 y4 n2)]) ∧ Below w.heap.size w w' := by
  have hs : ∃ s, IntKind.i64.wrap (n1 + n2) = s := ⟨_, rfl⟩
  obtain ⟨s, hs⟩ := hs
  have Hs := Lib.hid hs
  have HMA := Lib.hid (fun W => mvGood_any x1 y1 x2 y2 n1 W)
  have HMB := Lib.hid (fun W => mvGood_any x3 y3 x4 y4 n2 W)
  obtain ⟨_, _, n0, n3⟩ := isMv_iff.1 h1
  obtain ⟨_, _, m0, m3⟩ := isMv_iff.1 h2
  have hsn : s = n1 + n2 := by rw [← hs]; exact IntWalk.i64_in _ (by omega)
  rw [joOk_y h1 h2 (spOk_join n0 m0 h3 h4) ⟨h5.1, h5.2, he.1, he.2⟩]
  obtain ⟨rfl, rfl⟩ := he
  rw [h1] at HMA
  rw [h2] at HMB
  have HMM := Lib.hid (fun W => mvGood_any x1 y1 x4 y4 (n1 + n2) W)
  rw [h3] at HMM
  have HWH := Lib.hid (fun W => mvWhole_any x1 y1 x4 y4 (n1 + n2) n1 h3 (by omega) (by omega) W)
  rw [h4] at HWH
  have HRD := Lib.hid (fun W => mvRound_any x1 y1 x4 y4 (n1 + n2) n1 h3 (by omega) (by omega) W)
  obtain ⟨⟨e0, e1⟩, ⟨p0, p1⟩, ⟨r0, r1⟩⟩ := mv_facts h3 (show 0 ≤ n1 by omega) (show n1 ≤ n1 + n2 by omega)
  obtain ⟨wa, wb⟩ := (by simpa using h4 : wh (px x1 x4 (n1 + n2) n1) (n1 + n2) = true ∧ wh (px y1 y4 (n1 + n2) n1) (n1 + n2) = true)
  rw [wh_quo p0 e0 wa, wh_quo r0 e0 wb] at HRD
  obtain ⟨U, hU⟩ : ∃ U, U = ((px x1 x4 (n1 + n2) n1).tdiv (n1 + n2)) := ⟨_, rfl⟩
  obtain ⟨V, hV⟩ : ∃ V, V = ((px y1 y4 (n1 + n2) n1).tdiv (n1 + n2)) := ⟨_, rfl⟩
  rw [← hU, ← hV] at HRD h5
  clear e0 e1 p0 p1 r0 r1 wa wb hU hV
  rw [h5.1, h5.2] at HRD
  rw [← hsn] at HMM HWH HRD
  rw [← hsn]
  clear h1 h2 h3 h4 h5 hsn n0 n3 m0 m3
  go_enter Try.func27, Try.ntmps27
  go_upto_region 2 with fail
  obtain ⟨W, hW⟩ : ∃ W, W = ((((w.alloc (.cells #[.int .i64 x1, .int .i64 y1, .int .i64 x2, .int .i64 y2, .int .i64 n1] 29)).alloc (.cells #[.int .i64 x2, .int .i64 y2, .int .i64 x4, .int .i64 y4, .int .i64 n2] 29)).alloc (.cells #[.int .i64 0, .int .i64 0, .int .i64 0, .int .i64 0, .int .i64 0] 29)).alloc (.cells #[.int .i64 x1, .int .i64 y1, .int .i64 x4, .int .i64 y4, .int .i64 s] 29)) := ⟨_, rfl⟩
  rw [← hW]
  have ac0 : W.cell? ⟨w.heap.size, 0, none⟩ = some (.int .i64 x1) := by rw [hW]; go_simp
  have ac1 : W.cell? ⟨w.heap.size, 1, none⟩ = some (.int .i64 y1) := by rw [hW]; go_simp
  have ac2 : W.cell? ⟨w.heap.size, 2, none⟩ = some (.int .i64 x2) := by rw [hW]; go_simp
  have ac3 : W.cell? ⟨w.heap.size, 3, none⟩ = some (.int .i64 y2) := by rw [hW]; go_simp
  have ac4 : W.cell? ⟨w.heap.size, 4, none⟩ = some (.int .i64 n1) := by rw [hW]; go_simp
  have bc0 : W.cell? ⟨w.heap.size + 1, 0, none⟩ = some (.int .i64 x2) := by rw [hW]; go_simp
  have bc1 : W.cell? ⟨w.heap.size + 1, 1, none⟩ = some (.int .i64 y2) := by rw [hW]; go_simp
  have bc2 : W.cell? ⟨w.heap.size + 1, 2, none⟩ = some (.int .i64 x4) := by rw [hW]; go_simp
  have bc3 : W.cell? ⟨w.heap.size + 1, 3, none⟩ = some (.int .i64 y4) := by rw [hW]; go_simp
  have bc4 : W.cell? ⟨w.heap.size + 1, 4, none⟩ = some (.int .i64 n2) := by rw [hW]; go_simp
  have zc0 : W.cell? ⟨w.heap.size + 1 + 1, 0, none⟩ = some (.int .i64 0) := by rw [hW]; go_simp
  have zc1 : W.cell? ⟨w.heap.size + 1 + 1, 1, none⟩ = some (.int .i64 0) := by rw [hW]; go_simp
  have zc2 : W.cell? ⟨w.heap.size + 1 + 1, 2, none⟩ = some (.int .i64 0) := by rw [hW]; go_simp
  have zc3 : W.cell? ⟨w.heap.size + 1 + 1, 3, none⟩ = some (.int .i64 0) := by rw [hW]; go_simp
  have zc4 : W.cell? ⟨w.heap.size + 1 + 1, 4, none⟩ = some (.int .i64 0) := by rw [hW]; go_simp
  have mc0 : W.cell? ⟨w.heap.size + 1 + 1 + 1, 0, none⟩ = some (.int .i64 x1) := by rw [hW]; go_simp
  have mc1 : W.cell? ⟨w.heap.size + 1 + 1 + 1, 1, none⟩ = some (.int .i64 y1) := by rw [hW]; go_simp
  have mc2 : W.cell? ⟨w.heap.size + 1 + 1 + 1, 2, none⟩ = some (.int .i64 x4) := by rw [hW]; go_simp
  have mc3 : W.cell? ⟨w.heap.size + 1 + 1 + 1, 3, none⟩ = some (.int .i64 y4) := by rw [hW]; go_simp
  have mc4 : W.cell? ⟨w.heap.size + 1 + 1 + 1, 4, none⟩ = some (.int .i64 s) := by rw [hW]; go_simp
  have fz0 : W.frozen? ⟨w.heap.size + 1 + 1, 0, none⟩ = false := by rw [hW]; go_simp
  have fz1 : W.frozen? ⟨w.heap.size + 1 + 1, 1, none⟩ = false := by rw [hW]; go_simp
  have fz2 : W.frozen? ⟨w.heap.size + 1 + 1, 2, none⟩ = false := by rw [hW]; go_simp
  have fz3 : W.frozen? ⟨w.heap.size + 1 + 1, 3, none⟩ = false := by rw [hW]; go_simp
  have fz4 : W.frozen? ⟨w.heap.size + 1 + 1, 4, none⟩ = false := by rw [hW]; go_simp
  have hWb : Below w.heap.size w W := by rw [hW]; exact (by repeat (first | exact Below.refl _ _ | assumption | refine Below.drew ?_ | refine below_drewN ?_ _ | refine Below.alloc ?_ (by first | omega | (simp; done) | (simp; omega)) _ | refine Below.setCell ?_ (by first | omega | (simp; done) | (simp; omega)) _ | refine Below.trans ?_ (Below.mono (by assumption) (by first | omega | (simp; done) | (simp; omega)))))
  have hWs : W.heap.size = w.heap.size + 1 + 1 + 1 + 1 := by rw [hW]; simp
  clear hW
  have rgac0 := fun d os => cell_regrown ac0 d os
  have rgac1 := fun d os => cell_regrown ac1 d os
  have rgac2 := fun d os => cell_regrown ac2 d os
  have rgac3 := fun d os => cell_regrown ac3 d os
  have rgac4 := fun d os => cell_regrown ac4 d os
  have rgbc0 := fun d os => cell_regrown bc0 d os
  have rgbc1 := fun d os => cell_regrown bc1 d os
  have rgbc2 := fun d os => cell_regrown bc2 d os
  have rgbc3 := fun d os => cell_regrown bc3 d os
  have rgbc4 := fun d os => cell_regrown bc4 d os
  have rgmc0 := fun d os => cell_regrown mc0 d os
  have rgmc1 := fun d os => cell_regrown mc1 d os
  have rgmc2 := fun d os => cell_regrown mc2 d os
  have rgmc3 := fun d os => cell_regrown mc3 d os
  have rgmc4 := fun d os => cell_regrown mc4 d os
  refine wp_region_quiet_below (by kernel_rfl) (by kernel_rfl) ?_
  repeat (quiet_step (first | (with_reducible exact Calls.regrown_of (HMA.out _)) | (with_reducible exact Calls.regrown_of (HMB.out _)) | (with_reducible exact Calls.regrown_of (HMM.out _)) | (with_reducible exact Calls.regrown_of (HWH.out _)) | (with_reducible exact Calls.regrown_of (HRD.out _))))
  refine wpQuiet_nil ?_
  intro _ hw'
  obtain ⟨⟨dq, osq⟩, hw''⟩ := hw'
  subst hw''
  have hq := below_regrown W dq osq
  generalize grow (redrawn W dq) osq = W2 at hq ⊢
  have zd0 : W2.cell? ⟨w.heap.size + 1 + 1, 0, none⟩ = some (.int .i64 0) := (hq.cell (p := ⟨w.heap.size + 1 + 1, 0, none⟩) (by first | omega | (simp; done) | (simp; omega))).trans zc0
  have zd1 : W2.cell? ⟨w.heap.size + 1 + 1, 1, none⟩ = some (.int .i64 0) := (hq.cell (p := ⟨w.heap.size + 1 + 1, 1, none⟩) (by first | omega | (simp; done) | (simp; omega))).trans zc1
  have zd2 : W2.cell? ⟨w.heap.size + 1 + 1, 2, none⟩ = some (.int .i64 0) := (hq.cell (p := ⟨w.heap.size + 1 + 1, 2, none⟩) (by first | omega | (simp; done) | (simp; omega))).trans zc2
  have zd3 : W2.cell? ⟨w.heap.size + 1 + 1, 3, none⟩ = some (.int .i64 0) := (hq.cell (p := ⟨w.heap.size + 1 + 1, 3, none⟩) (by first | omega | (simp; done) | (simp; omega))).trans zc3
  have zd4 : W2.cell? ⟨w.heap.size + 1 + 1, 4, none⟩ = some (.int .i64 0) := (hq.cell (p := ⟨w.heap.size + 1 + 1, 4, none⟩) (by first | omega | (simp; done) | (simp; omega))).trans zc4
  have md0 : W2.cell? ⟨w.heap.size + 1 + 1 + 1, 0, none⟩ = some (.int .i64 x1) := (hq.cell (p := ⟨w.heap.size + 1 + 1 + 1, 0, none⟩) (by first | omega | (simp; done) | (simp; omega))).trans mc0
  have md1 : W2.cell? ⟨w.heap.size + 1 + 1 + 1, 1, none⟩ = some (.int .i64 y1) := (hq.cell (p := ⟨w.heap.size + 1 + 1 + 1, 1, none⟩) (by first | omega | (simp; done) | (simp; omega))).trans mc1
  have md2 : W2.cell? ⟨w.heap.size + 1 + 1 + 1, 2, none⟩ = some (.int .i64 x4) := (hq.cell (p := ⟨w.heap.size + 1 + 1 + 1, 2, none⟩) (by first | omega | (simp; done) | (simp; omega))).trans mc2
  have md3 : W2.cell? ⟨w.heap.size + 1 + 1 + 1, 3, none⟩ = some (.int .i64 y4) := (hq.cell (p := ⟨w.heap.size + 1 + 1 + 1, 3, none⟩) (by first | omega | (simp; done) | (simp; omega))).trans mc3
  have md4 : W2.cell? ⟨w.heap.size + 1 + 1 + 1, 4, none⟩ = some (.int .i64 s) := (hq.cell (p := ⟨w.heap.size + 1 + 1 + 1, 4, none⟩) (by first | omega | (simp; done) | (simp; omega))).trans mc4
  have fy0 : W2.frozen? ⟨w.heap.size + 1 + 1, 0, none⟩ = false := (hq.frozen (p := ⟨w.heap.size + 1 + 1, 0, none⟩) (by first | omega | (simp; done) | (simp; omega))).trans fz0
  have fy1 : W2.frozen? ⟨w.heap.size + 1 + 1, 1, none⟩ = false := (hq.frozen (p := ⟨w.heap.size + 1 + 1, 1, none⟩) (by first | omega | (simp; done) | (simp; omega))).trans fz1
  have fy2 : W2.frozen? ⟨w.heap.size + 1 + 1, 2, none⟩ = false := (hq.frozen (p := ⟨w.heap.size + 1 + 1, 2, none⟩) (by first | omega | (simp; done) | (simp; omega))).trans fz2
  have fy3 : W2.frozen? ⟨w.heap.size + 1 + 1, 3, none⟩ = false := (hq.frozen (p := ⟨w.heap.size + 1 + 1, 3, none⟩) (by first | omega | (simp; done) | (simp; omega))).trans fz3
  have fy4 : W2.frozen? ⟨w.heap.size + 1 + 1, 4, none⟩ = false := (hq.frozen (p := ⟨w.heap.size + 1 + 1, 4, none⟩) (by first | omega | (simp; done) | (simp; omega))).trans fz4
  have hB2 : Below w.heap.size w W2 := hWb.trans (hq.mono (by omega))
  clear hq rgac0 rgac1 rgac2 rgac3 rgac4 rgbc0 rgbc1 rgbc2 rgbc3 rgbc4 rgmc0 rgmc1 rgmc2 rgmc3 rgmc4 ac0 ac1 ac2 ac3 ac4 bc0 bc1 bc2 bc3 bc4 zc0 zc1 zc2 zc3 zc4 mc0 mc1 mc2 mc3 mc4
  go_wp2
  first | exact bodyPost_ret (v := .tuple #[.agg #[.int .i64 x1, .int .i64 y1, .int .i64 x4, .int .i64 y4, .int .i64 s], .bool true]) (by simp [results, Try.results27, go_sem, *]) rfl ⟨rfl, (by repeat (first | with_reducible exact Below.refl _ _ | with_reducible assumption | with_reducible refine Below.drew ?_ | with_reducible refine below_drewN ?_ _ | with_reducible refine Below.alloc ?_ (by first | omega | (simp; done) | (simp; omega)) _ | with_reducible refine Below.setCell ?_ (by first | omega | (simp; done) | (simp; omega)) _ | with_reducible refine Below.trans ?_ (Below.mono (by assumption) (by first | omega | (simp; done) | (simp; omega)))))⟩

theorem specJoin_any (x1 y1 x2 y2 n1 x3 y3 x4 y4 n2 : Int) (w : World) :
    Calls Try.prog 27 #[.agg #[.int .i64 x1, .int .i64 y1, .int .i64 x2, .int .i64 y2, .int .i64 n1], .agg #[.int .i64 x3, .int .i64 y3, .int .i64 x4, .int .i64 y4, .int .i64 n2]] w fun e w' => e = .returned (.tuple #[.agg #[.int .i64 (guardI (joOk x1 y1 x2 y2 n1 x3 y3 x4 y4 n2) x1), .int .i64 (guardI (joOk x1 y1 x2 y2 n1 x3 y3 x4 y4 n2) y1), .int .i64 (guardI (joOk x1 y1 x2 y2 n1 x3 y3 x4 y4 n2) x4), .int .i64 (guardI (joOk x1 y1 x2 y2 n1 x3 y3 x4 y4 n2) y4), .int .i64 (guardI (joOk x1 y1 x2 y2 n1 x3 y3 x4 y4 n2) (n1 + n2))], .bool (joOk x1 y1 x2 y2 n1 x3 y3 x4 y4 n2)]) ∧ Below w.heap.size w w' := by
  cases h1 : isMv x1 y1 x2 y2 n1
  · exact specJoin_a x1 y1 x2 y2 n1 x3 y3 x4 y4 n2 h1 w
  · cases h2 : isMv x3 y3 x4 y4 n2
    · exact specJoin_b x1 y1 x2 y2 n1 x3 y3 x4 y4 n2 h1 h2 w
    · cases h3 : isMv x1 y1 x4 y4 (n1 + n2)
      · exact specJoin_m x1 y1 x2 y2 n1 x3 y3 x4 y4 n2 h1 h2 h3 w
      · by_cases he : x2 = x3 ∧ y2 = y3
        · cases h4 : (wh (px x1 x4 (n1 + n2) n1) (n1 + n2) && wh (px y1 y4 (n1 + n2) n1) (n1 + n2))
          · exact specJoin_w x1 y1 x2 y2 n1 x3 y3 x4 y4 n2 h1 h2 h3 he h4 w
          · by_cases h5 : ((px x1 x4 (n1 + n2) n1).tdiv (n1 + n2)) = x2 ∧ ((px y1 y4 (n1 + n2) n1).tdiv (n1 + n2)) = y2
            · exact specJoin_y x1 y1 x2 y2 n1 x3 y3 x4 y4 n2 h1 h2 h3 he h4 h5 w
            · by_cases h6 : ((px x1 x4 (n1 + n2) n1).tdiv (n1 + n2)) = x2
              · exact specJoin_r2 x1 y1 x2 y2 n1 x3 y3 x4 y4 n2 h1 h2 h3 he h4 h6 (fun c => h5 ⟨h6, c⟩) w
              · exact specJoin_r1 x1 y1 x2 y2 n1 x3 y3 x4 y4 n2 h1 h2 h3 he h4 h6 w
        · by_cases hx : x2 = x3
          · exact specJoin_e2 x1 y1 x2 y2 n1 x3 y3 x4 y4 n2 h1 h2 h3 hx (fun c => he ⟨hx, c⟩) w
          · exact specJoin_e1 x1 y1 x2 y2 n1 x3 y3 x4 y4 n2 h1 h2 h3 hx w

end Go.Proofs.Ytagfleajkalgiaa
