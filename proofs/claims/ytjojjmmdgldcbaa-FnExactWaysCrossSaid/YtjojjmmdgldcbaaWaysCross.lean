/- The exact law of WaysCross. No conditions. -/
import Derived.Test.YtjojjmmdgldcbaaApX
import Derived.Test.YtjojjmmdgldcbaaOpenMv
import Derived.Deep.RegionHeld3
import Derived.Deep.DeepCutAuto
import Derived.Deep.DrawnRows
import Derived.Lib.QuietBelow
namespace Go.Proofs.Ytjojjmmdgldcbaa
open Go.ChangeShapes Go.WideShapes Go.ChangeAt Go.RowKit Go.Sort


attribute [local go_sem ↓] Go.wp_at_zero Go.wp_at_succ

set_option maxRecDepth 100000 in
set_option maxHeartbeats 4000000 in
theorem crossL0_law (x1 y1 x1' y1' n1 x2 y2 x2' y2' n2 : Int) (w : World) :
    Calls Try.prog 8 #[.agg #[.int .i64 x1, .int .i64 y1, .int .i64 x1', .int .i64 y1', .int .i64 n1], .agg #[.int .i64 x2, .int .i64 y2, .int .i64 x2', .int .i64 y2', .int .i64 n2]] w fun e w' => e = .returned (.bool true) ∧ Below w.heap.size w w' := by
  have HSP := Lib.hid (fun W => specCross_any x1 y1 x1' y1' n1 x2 y2 x2' y2' n2 W)
  have HIM := Lib.hid (fun W => cross_any x1 y1 x1' y1' n1 x2 y2 x2' y2' n2 W)
  obtain ⟨st, hst⟩ : ∃ z, z = (gtog x1 y1 x1' y1' n1 x2 y2 x2' y2' n2 && crs x1 y1 x1' y1' n1 x2 y2 x2' y2' n2) := ⟨_, rfl⟩
  simp only [← hst] at HSP HIM
  clear hst
  obtain ⟨ok, hok⟩ : ∃ z, z = gtog x1 y1 x1' y1' n1 x2 y2 x2' y2' n2 := ⟨_, rfl⟩
  simp only [← hok] at HSP HIM
  clear hok
  go_enter Try.func8, Try.ntmps8
  go_upto_region 1 with fail
  obtain ⟨W, hW⟩ : ∃ W, W = ((w.alloc (.cells #[.int .i64 x1, .int .i64 y1, .int .i64 x1', .int .i64 y1', .int .i64 n1] 25)).alloc (.cells #[.int .i64 x2, .int .i64 y2, .int .i64 x2', .int .i64 y2', .int .i64 n2] 25)) := ⟨_, rfl⟩
  rw [← hW]
  have c00 : W.cell? ⟨w.heap.size, 0, none⟩ = some (.int .i64 x1) := by rw [hW]; go_simp
  have c01 : W.cell? ⟨w.heap.size, 1, none⟩ = some (.int .i64 y1) := by rw [hW]; go_simp
  have c02 : W.cell? ⟨w.heap.size, 2, none⟩ = some (.int .i64 x1') := by rw [hW]; go_simp
  have c03 : W.cell? ⟨w.heap.size, 3, none⟩ = some (.int .i64 y1') := by rw [hW]; go_simp
  have c04 : W.cell? ⟨w.heap.size, 4, none⟩ = some (.int .i64 n1) := by rw [hW]; go_simp
  have c10 : W.cell? ⟨w.heap.size + 1, 0, none⟩ = some (.int .i64 x2) := by rw [hW]; go_simp
  have c11 : W.cell? ⟨w.heap.size + 1, 1, none⟩ = some (.int .i64 y2) := by rw [hW]; go_simp
  have c12 : W.cell? ⟨w.heap.size + 1, 2, none⟩ = some (.int .i64 x2') := by rw [hW]; go_simp
  have c13 : W.cell? ⟨w.heap.size + 1, 3, none⟩ = some (.int .i64 y2') := by rw [hW]; go_simp
  have c14 : W.cell? ⟨w.heap.size + 1, 4, none⟩ = some (.int .i64 n2) := by rw [hW]; go_simp
  have hWb : Below w.heap.size w W := by rw [hW]; exact (by repeat (first | exact Below.refl _ _ | assumption | refine Below.drew ?_ | refine below_drewN ?_ _ | refine Below.alloc ?_ (by first | omega | (simp; done) | (simp; omega)) _ | refine Below.setCell ?_ (by first | omega | (simp; done) | (simp; omega)) _ | refine Below.trans ?_ (Below.mono (by assumption) (by first | omega | (simp; done) | (simp; omega)))))
  have hWs : W.heap.size = w.heap.size + 1 + 1 := by rw [hW]; simp
  clear hW
  have rgc00 := fun d os => cell_regrown c00 d os
  have rgc01 := fun d os => cell_regrown c01 d os
  have rgc02 := fun d os => cell_regrown c02 d os
  have rgc03 := fun d os => cell_regrown c03 d os
  have rgc04 := fun d os => cell_regrown c04 d os
  have rgc10 := fun d os => cell_regrown c10 d os
  have rgc11 := fun d os => cell_regrown c11 d os
  have rgc12 := fun d os => cell_regrown c12 d os
  have rgc13 := fun d os => cell_regrown c13 d os
  have rgc14 := fun d os => cell_regrown c14 d os
  refine wp_region_quiet_below (by kernel_rfl) (by kernel_rfl) ?_
  repeat (quiet_step (first | (with_reducible exact Calls.regrown_of (toMove_any _ _ _ _ _ _)) | (with_reducible exact Calls.regrown_of (HSP.out _))))
  refine wpQuiet_nil ?_
  intro _ hw'
  obtain ⟨⟨dq, osq⟩, hw''⟩ := hw'
  subst hw''
  have hq := below_regrown W dq osq
  generalize grow (redrawn W dq) osq = W2 at hq ⊢
  have hq1 := hq
  have hs2 := hq.size
  clear hq
  clear rgc00 rgc01 rgc02 rgc03 rgc04 rgc10 rgc11 rgc12 rgc13 rgc14
  replace c00 : W2.cell? ⟨w.heap.size, 0, none⟩ = some (.int .i64 x1) := (hq1.cell (p := ⟨w.heap.size, 0, none⟩) (by first | omega | (simp; done) | (simp; omega))).trans c00
  replace c01 : W2.cell? ⟨w.heap.size, 1, none⟩ = some (.int .i64 y1) := (hq1.cell (p := ⟨w.heap.size, 1, none⟩) (by first | omega | (simp; done) | (simp; omega))).trans c01
  replace c02 : W2.cell? ⟨w.heap.size, 2, none⟩ = some (.int .i64 x1') := (hq1.cell (p := ⟨w.heap.size, 2, none⟩) (by first | omega | (simp; done) | (simp; omega))).trans c02
  replace c03 : W2.cell? ⟨w.heap.size, 3, none⟩ = some (.int .i64 y1') := (hq1.cell (p := ⟨w.heap.size, 3, none⟩) (by first | omega | (simp; done) | (simp; omega))).trans c03
  replace c04 : W2.cell? ⟨w.heap.size, 4, none⟩ = some (.int .i64 n1) := (hq1.cell (p := ⟨w.heap.size, 4, none⟩) (by first | omega | (simp; done) | (simp; omega))).trans c04
  replace c10 : W2.cell? ⟨w.heap.size + 1, 0, none⟩ = some (.int .i64 x2) := (hq1.cell (p := ⟨w.heap.size + 1, 0, none⟩) (by first | omega | (simp; done) | (simp; omega))).trans c10
  replace c11 : W2.cell? ⟨w.heap.size + 1, 1, none⟩ = some (.int .i64 y2) := (hq1.cell (p := ⟨w.heap.size + 1, 1, none⟩) (by first | omega | (simp; done) | (simp; omega))).trans c11
  replace c12 : W2.cell? ⟨w.heap.size + 1, 2, none⟩ = some (.int .i64 x2') := (hq1.cell (p := ⟨w.heap.size + 1, 2, none⟩) (by first | omega | (simp; done) | (simp; omega))).trans c12
  replace c13 : W2.cell? ⟨w.heap.size + 1, 3, none⟩ = some (.int .i64 y2') := (hq1.cell (p := ⟨w.heap.size + 1, 3, none⟩) (by first | omega | (simp; done) | (simp; omega))).trans c13
  replace c14 : W2.cell? ⟨w.heap.size + 1, 4, none⟩ = some (.int .i64 n2) := (hq1.cell (p := ⟨w.heap.size + 1, 4, none⟩) (by first | omega | (simp; done) | (simp; omega))).trans c14
  go_upto_region 2 with fail
  have rgc00 := fun d os => cell_regrown c00 d os
  have rgc01 := fun d os => cell_regrown c01 d os
  have rgc02 := fun d os => cell_regrown c02 d os
  have rgc03 := fun d os => cell_regrown c03 d os
  have rgc04 := fun d os => cell_regrown c04 d os
  have rgc10 := fun d os => cell_regrown c10 d os
  have rgc11 := fun d os => cell_regrown c11 d os
  have rgc12 := fun d os => cell_regrown c12 d os
  have rgc13 := fun d os => cell_regrown c13 d os
  have rgc14 := fun d os => cell_regrown c14 d os
  refine wp_region_quiet_below (by kernel_rfl) (by kernel_rfl) ?_
  repeat (quiet_step (first | (with_reducible exact Calls.regrown_of (toMove_any _ _ _ _ _ _)) | (with_reducible exact Calls.regrown_of (HIM.out _))))
  refine wpQuiet_nil ?_
  intro _ hw'
  obtain ⟨⟨dq, osq⟩, hw''⟩ := hw'
  subst hw''
  have hq := below_regrown W2 dq osq
  generalize grow (redrawn W2 dq) osq = W3 at hq ⊢
  have hB : Below w.heap.size w W3 := hWb.trans ((hq1.mono (by first | omega | (simp; done) | (simp; omega))).trans (hq.mono (by first | omega | (simp; done) | (simp; omega))))
  clear rgc00 rgc01 rgc02 rgc03 rgc04 rgc10 rgc11 rgc12 rgc13 rgc14
  go_wp2
  go_ret
  exact ⟨rfl, hB⟩

set_option maxRecDepth 100000 in
theorem crossL0_holds : Rows.FnExactWaysCrossSaid :=
  OpenClaim.holds_of_wide 8 Try.f8 rfl rfl rfl rfl rfl rfl rfl ⟨rfl, rfl, rfl, rfl, rfl⟩ rfl rfl rfl rfl rfl (by kernel_rfl) Try.func8 (by kernel_rfl)
    (of_decide_eq_true (by kernel_rfl)) (by unfold Func.isWrapper; rw [if_neg (of_decide_eq_false (by kernel_rfl))]; exact ⟨rfl, rfl⟩)
    (fun os started H enc _ => law_lifted (C := Try.checked) (s := Rows.fnExactWaysCrossSpec) Try.own started (by kernel_rfl) Try.func8
      (ChangeSpec.witness6 (enc := enc) (C := Try.checked) false ⟨#[], #[.agg #[.int .i64 0, .int .i64 0, .int .i64 0, .int .i64 0, .int .i64 0], .agg #[.int .i64 0, .int .i64 0, .int .i64 0, .int .i64 0, .int .i64 0]], []⟩ 8 (by kernel_rfl) (by kernel_rfl) (by kernel_rfl) (by kernel_rfl))
      Try.laidOut (by kernel_rfl) rfl Try.underlying4 rfl
      (fun W base args ds p hval hA hlt => by
        have hA' : DataW.TrodAll enc Try.prog W 0 (fun _ => true) true Try.f8.params.toList args.toList ds p := hA
        have hval' : ∀ (j : Nat) t v, Try.f8.params[j]? = some t → args[j]? = some v → Value.okWide Try.prog W .any base t v := hval
        rw [Try.params8] at hA' hval'
        obtain ⟨v0, v1, d0, d1, p0, p1, rfl, rfl, rfl, h0, h1⟩ := trodAll_two hA'
        obtain ⟨x1, y1, x1', y1', n1, rfl⟩ := open_move (hval' 0 _ v0 rfl rfl) h0
        obtain ⟨x2, y2, x2', y2', n2, rfl⟩ := open_move (hval' 1 _ v1 rfl rfl) h1
        exact ⟨rfl, crossL0_law x1 y1 x1' y1' n1 x2 y2 x2' y2' n2 W⟩))

end Go.Proofs.Ytjojjmmdgldcbaa
