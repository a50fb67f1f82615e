/- The exact law of LeastCounts, a tied card. No conditions but its row's. -/
import Derived.Test.YtagfleajkalgiaaDoorMvLc
import Derived.Test.YtagfleajkalgiaaDoorOpenSt
import Derived.Test.YtagfleajkalgiaaDoorFrameVar
import Derived.Test.YtagfleajkalgiaaDoorTie
import Derived.Test.YtagfleajkalgiaaDoorCards
import Derived.Deep.RegionHeld3
import Derived.Deep.DeepCutAuto
import Derived.Deep.DrawnRows
import Derived.Lib.LaidTab
import Derived.Stop.LaidErr
import Derived.LaidMore
import Derived.SevenTiedAt
import Derived.Lib.QuietBelow
namespace Go.Proofs.YtagfleajkalgiaaDoor
open Go.ChangeShapes Go.WideShapes Go.ChangeAt Go.RowKit Go.Sort


attribute [local go_sem ↓] Go.wp_at_zero Go.wp_at_succ

set_option maxRecDepth 100000 in
set_option maxHeartbeats 2000000 in
theorem leastCL0_law (x1 y1 x2 y2 s : Int) (w : World) (ht : SqAt w) :
    Calls Tryd.prog 4 #[.agg #[.int .i64 x1, .int .i64 y1], .agg #[.int .i64 x2, .int .i64 y2], .int .i64 s] w fun e w' => e = .returned (.bool true) ∧ Below w.heap.size w w' := by
  have HT := Lib.hid ht
  clear ht
  have HTS := Lib.hid (fun x y W => toSpot_any x y W)
  have HSP := Lib.hid (fun W => specLc_any x1 y1 x2 y2 s W)
  have HIM := Lib.hid (fun W (h : SqAt W) => lc_any x1 y1 x2 y2 s W h)
  obtain ⟨V, hV⟩ : ∃ z, z = (lcR x1 y1 x2 y2 s).1 := ⟨_, rfl⟩
  obtain ⟨B, hB⟩ : ∃ z, z = (lcR x1 y1 x2 y2 s).2 := ⟨_, rfl⟩
  simp only [← hV, ← hB] at HSP HIM
  clear hV hB
  go_enter Tryd.func4, Tryd.ntmps4
  go_upto_region 1 with fail
  obtain ⟨W, hW⟩ : ∃ W, W = ((w.alloc (.cells #[.int .i64 x1, .int .i64 y1] 23)).alloc (.cells #[.int .i64 x2, .int .i64 y2] 23)) := ⟨_, rfl⟩
  rw [← hW]
  have c00 : W.cell? ⟨w.heap.size, 0, none⟩ = some (.int .i64 x1) := by rw [hW]; go_simp
  have c01 : W.cell? ⟨w.heap.size, 1, none⟩ = some (.int .i64 y1) := by rw [hW]; go_simp
  have c10 : W.cell? ⟨w.heap.size + 1, 0, none⟩ = some (.int .i64 x2) := by rw [hW]; go_simp
  have c11 : W.cell? ⟨w.heap.size + 1, 1, none⟩ = some (.int .i64 y2) := by rw [hW]; go_simp
  have hWb : Below w.heap.size w W := by rw [hW]; exact (by repeat (first | exact Below.refl _ _ | assumption | refine Below.drew ?_ | refine below_drewN ?_ _ | refine Below.alloc ?_ (by first | omega | (simp; done) | (simp; omega)) _ | refine Below.setCell ?_ (by first | omega | (simp; done) | (simp; omega)) _ | refine Below.trans ?_ (Below.mono (by assumption) (by first | omega | (simp; done) | (simp; omega)))))
  have hWs : W.heap.size = w.heap.size + 1 + 1 := by rw [hW]; simp
  clear hW
  have rgc00 := fun d os => cell_regrown c00 d os
  have rgc01 := fun d os => cell_regrown c01 d os
  have rgc10 := fun d os => cell_regrown c10 d os
  have rgc11 := fun d os => cell_regrown c11 d os
  refine wp_region_quiet_below (by kernel_rfl) (by kernel_rfl) ?_
  repeat (quiet_step (first | (with_reducible exact Calls.regrown_of (HTS.out _ _ _)) | (with_reducible exact Calls.regrown_of (HSP.out _))))
  refine wpQuiet_nil ?_
  intro _ hw'
  obtain ⟨⟨dq, osq⟩, hw''⟩ := hw'
  subst hw''
  have hq := below_regrown W dq osq
  generalize grow (redrawn W dq) osq = W2 at hq ⊢
  have dc00 : W2.cell? ⟨w.heap.size, 0, none⟩ = some (.int .i64 x1) := (hq.cell (p := ⟨w.heap.size, 0, none⟩) (by first | omega | (simp; done) | (simp; omega))).trans c00
  have dc01 : W2.cell? ⟨w.heap.size, 1, none⟩ = some (.int .i64 y1) := (hq.cell (p := ⟨w.heap.size, 1, none⟩) (by first | omega | (simp; done) | (simp; omega))).trans c01
  have dc10 : W2.cell? ⟨w.heap.size + 1, 0, none⟩ = some (.int .i64 x2) := (hq.cell (p := ⟨w.heap.size + 1, 0, none⟩) (by first | omega | (simp; done) | (simp; omega))).trans c10
  have dc11 : W2.cell? ⟨w.heap.size + 1, 1, none⟩ = some (.int .i64 y2) := (hq.cell (p := ⟨w.heap.size + 1, 1, none⟩) (by first | omega | (simp; done) | (simp; omega))).trans c11
  have hB2 : Below w.heap.size w W2 := hWb.trans (hq.mono (by omega))
  have HT2 := Lib.hid (HT.out.below hB2)
  clear hq rgc00 rgc01 rgc10 rgc11 c00 c01 c10 c11 hWb hWs
  go_upto_region 2 with fail
  have rgdc00 := fun d os => cell_regrown dc00 d os
  have rgdc01 := fun d os => cell_regrown dc01 d os
  have rgdc10 := fun d os => cell_regrown dc10 d os
  have rgdc11 := fun d os => cell_regrown dc11 d os
  refine wp_region_quiet_below (by kernel_rfl) (by kernel_rfl) ?_
  repeat (quiet_step (first | (with_reducible exact Calls.regrown_of (HTS.out _ _ _)) | (with_reducible exact Calls.regrown_of (HIM.out _ (HT2.out.below (below_regrown _ _ _))))))
  refine wpQuiet_nil ?_
  intro _ hw'
  obtain ⟨⟨dq, osq⟩, hw''⟩ := hw'
  subst hw''
  have hq := below_regrown W2 dq osq
  generalize grow (redrawn W2 dq) osq = W3 at hq ⊢
  have hB3 : Below w.heap.size w W3 := hB2.trans (hq.mono hB2.size)
  go_wp2
  go_ret
  exact ⟨rfl, hB3⟩

def sqTab : List Int := [0, 1, 4, 9, 16, 25, 36, 49, 64, 81, 100, 121, 144, 169, 196, 225, 256, 289, 324, 361, 400, 441, 484, 529, 576]
theorem sqTab_at : ∀ i : Nat, i < 25 → sqTab[i]? = some ((i : Int) * i) := by decide
theorem tab_of_laid {W : World} (h : laidMetH Tryd.prog Rows.fnExactLeastCountsRow.laid W) : Lib.TabIs Tryd.prog W "loop.example/g00939/impl.stepSquares" .i64 sqTab := by
  rw [MakeChecks.laidMetH_plain _ _ _ (by kernel_rfl)] at h
  have h1 : laidMet Tryd.prog [("loop.example/g00939/impl.stepSquares", Rows.laid_loop_example_g00939_impl_stepSquares)] W := h
  have e : (Rows.laid_loop_example_g00939_impl_stepSquares : DataW Unit) = Lib.tabData .i64 sqTab := by kernel_rfl
  rw [e] at h1
  exact Lib.tabIs_of_head (g := 0) (by kernel_rfl) (by kernel_rfl) Tryd.underlying54 Tryd.underlying3 (by kernel_rfl) (by kernel_rfl) h1
theorem tab_here {W : World} (h : laidMetH Tryd.prog Rows.fnExactLeastCountsRow.laid W) : SqAt W := by
  intro i hi
  have hl : i < sqTab.length := by show i < 25; omega
  have hc := (tab_of_laid h).cell (g := 0) (by kernel_rfl) i hl
  have e := sqTab_at i (by omega)
  rw [hc, List.getD_eq_getElem?_getD, e]
  rfl
/-- The door's own heap meets the list. -/
theorem door_met (os : Os) (args : Array Value) : laidMetH Tryd.prog Rows.fnExactLeastCountsRow.laid ((World.doorLaid Tryd.prog 400 os).forCall (fun _ _ => 0) ⟨#[], args, []⟩).memory :=
  laidMetH_of_parts3 (fuel := 8) (laidMet_of_run' 8 (by kernel_rfl) (by kernel_rfl)) (by kernel_rfl) (by kernel_rfl)

set_option maxRecDepth 100000 in
theorem leastCL0_holds : Rows.FnExactLeastCountsSaid :=
  OpenClaim.holds_of_wide 4 Tryd.f4 rfl rfl rfl rfl rfl rfl rfl ⟨rfl, rfl, rfl, rfl, rfl⟩ rfl rfl rfl rfl rfl (by kernel_rfl) Tryd.func4 (by kernel_rfl)
    (of_decide_eq_true (by kernel_rfl)) (by unfold Func.isWrapper; rw [if_neg (of_decide_eq_false (by kernel_rfl))]; exact ⟨rfl, rfl⟩)
    (fun os started H enc _ => law_lifted_vars (C := Tryd.checked) (s := Rows.fnExactLeastCountsSpec) (laid := Rows.fnExactLeastCountsRow.laid) Tryd.own started (by kernel_rfl) Tryd.func4
      (ChangeSpec.witness_shaped (enc := enc) (C := Tryd.checked) (os := os) (X := fun w _ => laidMetH Tryd.prog Rows.fnExactLeastCountsRow.laid w) false (World.doorLaid Tryd.prog 400 os) #[.agg #[.int .i64 0, .int .i64 0], .agg #[.int .i64 0, .int .i64 0], .int .i64 0] 8 rfl (World.shaped_of_RefB (by kernel_rfl) (by kernel_rfl)) (by kernel_rfl) (by kernel_rfl) (by kernel_rfl) (door_met os _))
      Tryd.laidOut (by kernel_rfl) rfl Tryd.underlying4 (by
        intro n hn g tt hg ht
        obtain rfl : n = "loop.example/g00939/impl.stepSquares" := by simpa using (show n ∈ ["loop.example/g00939/impl.stepSquares"] from hn)
        have e1 : Tryd.prog.globalNamed "loop.example/g00939/impl.stepSquares" = some 0 := by kernel_rfl
        have e2 : (Tryd.prog.globals[0]?).map (·.type) = some 54 := by kernel_rfl
        obtain rfl : 0 = g := Option.some.inj (e1.symm.trans hg)
        obtain rfl : 54 = tt := Option.some.inj (e2.symm.trans ht)
        exact ⟨by kernel_rfl, of_decide_eq_true (by kernel_rfl)⟩)
      (fun W base args ds gs p q hval hA hV hL => by
        have hA' : DataW.TrodAll enc Tryd.prog W 0 (fun _ => true) true Tryd.f4.params.toList args.toList ds p := hA
        have hval' : ∀ (j : Nat) t v, Tryd.f4.params[j]? = some t → args[j]? = some v → Value.okWide Tryd.prog W .any base t v := hval
        rw [Tryd.params4] at hA' hval'
        obtain ⟨v0, v1, v2, d0, d1, d2, p0, p1, p2, rfl, rfl, rfl, h0, h1, h2⟩ := trodAll_three hA'
        obtain ⟨x1, y1, rfl, _, _⟩ := open_spot (hval' 0 _ v0 rfl rfl) h0
        obtain ⟨x2, y2, rfl, _, _⟩ := open_spot (hval' 1 _ v1 rfl rfl) h1
        obtain ⟨s, rfl, rfl, rfl, wfs⟩ := open_int Tryd.underlying3 (hval' 2 _ v2 rfl rfl) h2
        have hV' : DataW.TrodVars enc Tryd.prog W (fun _ => true) ["loop.example/g00939/impl.stepSquares"] gs q := hV
        obtain ⟨_, _, _, _, g1, _, rfl, _⟩ := trodVars_one hV'
        exact ⟨rfl, leastCL0_law x1 y1 x2 y2 s W (tab_here hL)⟩))

theorem leastCL0_card : Rows.FnExactLeastCountsCardSaid :=
  Claim7.holds_tied_plain_at .later [] [.data] true Rows.fnExactLeastCountsCard.stood.harness false
    leastCL0_holds (fun _ h => by cases h) (by kernel_rfl) (fun _ h => by cases h) fnExactLeastCounts_row_tie rfl ⟨rfl, rfl⟩ (by kernel_rfl) rfl
    (fun g gn hg hgn => by
      obtain rfl : g = 4 := Option.some.inj ((show Tryd.prog.funcNamed Rows.fnExactLeastCountsRow.func = some 4 by kernel_rfl).symm.trans hg) |>.symm
      obtain rfl : gn = Tryd.f4 := (Option.some.inj (Tryd.func4.symm.trans hgn)).symm
      exact ⟨by kernel_rfl, fun j t ht => by
        rw [Tryd.params4] at ht
        have hm : t ∈ [23, 3] := by simpa using Array.mem_of_getElem? ht
        have hall : ([23, 3].all fun u => !Tryd.prog.wantsStandIn u) = true := by kernel_rfl
        exact (show Tryd.prog.wantsStandIn t = false by simpa using List.all_eq_true.1 hall t hm)⟩)
    (by kernel_rfl)

end Go.Proofs.YtagfleajkalgiaaDoor
