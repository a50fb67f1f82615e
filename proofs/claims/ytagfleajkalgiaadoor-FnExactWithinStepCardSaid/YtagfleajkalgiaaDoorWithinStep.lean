/- The exact law of WithinStep, a tied card. No conditions but its row's. -/
import Derived.Test.YtagfleajkalgiaaDoorMvWi
import Derived.Test.YtagfleajkalgiaaDoorOpenMv
import Derived.Test.YtagfleajkalgiaaDoorFrameVar
import Derived.Test.YtagfleajkalgiaaDoorTie
import Derived.Test.YtagfleajkalgiaaDoorCards
import Derived.Deep.RegionHeld3
import Derived.Deep.DeepCutAuto
import Derived.Deep.DrawnRows
import Derived.Lib.LaidTab
import Derived.Stop.LaidErr
import Derived.LaidMore
import Derived.SevenTiedAt
namespace Go.Proofs.YtagfleajkalgiaaDoor
open Go.ChangeShapes Go.WideShapes Go.ChangeAt Go.RowKit


attribute [local go_sem ↓] Go.wp_at_zero Go.wp_at_succ

set_option maxRecDepth 100000 in
set_option maxHeartbeats 2000000 in
theorem withinSL0_law (x1 y1 x1' y1' n1 s : Int) (w : World) (ht : SqAt w) :
    Calls Tryd.prog 3 #[.agg #[.int .i64 x1, .int .i64 y1, .int .i64 x1', .int .i64 y1', .int .i64 n1], .int .i64 s] w fun e w' => e = .returned (.bool true) ∧ Below w.heap.size w w' := by
  obtain ⟨q1, q2, q3, q4, q5, q6, q7⟩ := nadd
  have HSP := Lib.hid (fun W => specWithinStep_any x1 y1 x1' y1' n1 s W)
  have HT := Lib.hid ht
  clear ht
  have HIM := Lib.hid (fun W (h : SqAt W) => withinStep_any x1 y1 x1' y1' n1 s W h)
  obtain ⟨d, hd⟩ : ∃ z, z = (wiOk x1 y1 x1' y1' n1 s && decide (sqr x1 y1 x1' y1' ≤ wiR s n1)) := ⟨_, rfl⟩
  simp only [← hd] at HSP HIM
  clear hd
  obtain ⟨ok, hok⟩ : ∃ z, z = wiOk x1 y1 x1' y1' n1 s := ⟨_, rfl⟩
  simp only [← hok] at HSP HIM
  clear hok
  go_enter Tryd.func3, Tryd.ntmps3
  go_wp2_with (first | (go_at_call 7; (with_reducible refine (toMove_any _ _ _ _ _ _).mono ?_; rintro e w1 ⟨rfl, hb1⟩; have hs1 := hb1.size; (try simp at hs1); (first | have hk6 := call_facts hl5 hb1 (by first | (simp; done) | (simp; omega)) | skip); (first | have hk5 := call_facts hl4 hb1 (by first | (simp; done) | (simp; omega)) | skip); (first | have hk4 := call_facts hl3 hb1 (by simp) | skip); (first | have hk3 := call_facts hl2 hb1 (by simp) | skip); (first | have hk2 := call_facts hl1 hb1 (by simp) | skip); have hk1 := call_facts (fun b h => h) hb1 (Nat.le_refl _); (first | have hl6 := hk6.1 | skip); (first | have hl5 := hk5.1 | skip); (first | have hl4 := hk4.1 | skip); (first | have hl3 := hk3.1 | skip); (first | have hl2 := hk2.1 | skip); have hl1 := hk1.1)) | (go_at_call 6; (with_reducible refine (HSP.out _).mono ?_; rintro e w1 ⟨rfl, hb1⟩; have hs1 := hb1.size; (try simp at hs1); (first | have hk6 := call_facts hl5 hb1 (by first | (simp; done) | (simp; omega)) | skip); (first | have hk5 := call_facts hl4 hb1 (by first | (simp; done) | (simp; omega)) | skip); (first | have hk4 := call_facts hl3 hb1 (by simp) | skip); (first | have hk3 := call_facts hl2 hb1 (by simp) | skip); (first | have hk2 := call_facts hl1 hb1 (by simp) | skip); have hk1 := call_facts (fun b h => h) hb1 (Nat.le_refl _); (first | have hl6 := hk6.1 | skip); (first | have hl5 := hk5.1 | skip); (first | have hl4 := hk4.1 | skip); (first | have hl3 := hk3.1 | skip); (first | have hl2 := hk2.1 | skip); have hl1 := hk1.1)) | (go_at_call 8; (with_reducible refine (HIM.out _ (HT.out.below (by repeat (first | exact Below.refl _ _ | assumption | refine Below.drew ?_ | refine below_drewN ?_ _ | refine Below.alloc ?_ (by first | omega | (simp; done) | (simp; omega)) _ | refine Below.setCell ?_ (by first | omega | (simp; done) | (simp; omega)) _ | refine Below.trans ?_ (Below.mono (by assumption) (by first | omega | (simp; done) | (simp; omega))))))).mono ?_; rintro e w1 ⟨rfl, hb1⟩; have hs1 := hb1.size; (try simp at hs1); (first | have hk6 := call_facts hl5 hb1 (by first | (simp; done) | (simp; omega)) | skip); (first | have hk5 := call_facts hl4 hb1 (by first | (simp; done) | (simp; omega)) | skip); (first | have hk4 := call_facts hl3 hb1 (by simp) | skip); (first | have hk3 := call_facts hl2 hb1 (by simp) | skip); (first | have hk2 := call_facts hl1 hb1 (by simp) | skip); have hk1 := call_facts (fun b h => h) hb1 (Nat.le_refl _); (first | have hl6 := hk6.1 | skip); (first | have hl5 := hk5.1 | skip); (first | have hl4 := hk4.1 | skip); (first | have hl3 := hk3.1 | skip); (first | have hl2 := hk2.1 | skip); have hl1 := hk1.1)))
  go_ret
  exact ⟨rfl, (by repeat (first | exact Below.refl _ _ | assumption | refine Below.drew ?_ | refine below_drewN ?_ _ | refine Below.alloc ?_ (by first | omega | (simp; done) | (simp; omega)) _ | refine Below.setCell ?_ (by first | omega | (simp; done) | (simp; omega)) _ | refine Below.trans ?_ (Below.mono (by assumption) (by first | omega | (simp; done) | (simp; omega)))))⟩

def sqTab : List Int := [0, 1, 4, 9, 16, 25, 36, 49, 64, 81, 100, 121, 144, 169, 196, 225, 256, 289, 324, 361, 400, 441, 484, 529, 576]
theorem sqTab_at : ∀ i : Nat, i < 25 → sqTab[i]? = some ((i : Int) * i) := by decide
theorem tab_of_laid {W : World} (h : laidMetH Tryd.prog Rows.fnExactWithinStepRow.laid W) : Lib.TabIs Tryd.prog W "loop.example/g00939/impl.stepSquares" .i64 sqTab := by
  rw [MakeChecks.laidMetH_plain _ _ _ (by kernel_rfl)] at h
  have h1 : laidMet Tryd.prog [("loop.example/g00939/impl.stepSquares", Rows.laid_loop_example_g00939_impl_stepSquares)] W := h
  have e : (Rows.laid_loop_example_g00939_impl_stepSquares : DataW Unit) = Lib.tabData .i64 sqTab := by kernel_rfl
  rw [e] at h1
  exact Lib.tabIs_of_head (g := 0) (by kernel_rfl) (by kernel_rfl) Tryd.underlying54 Tryd.underlying3 (by kernel_rfl) (by kernel_rfl) h1
theorem tab_here {W : World} (h : laidMetH Tryd.prog Rows.fnExactWithinStepRow.laid W) : SqAt W := by
  intro i hi
  have hl : i < sqTab.length := by show i < 25; omega
  have hc := (tab_of_laid h).cell (g := 0) (by kernel_rfl) i hl
  have e := sqTab_at i (by omega)
  rw [hc, List.getD_eq_getElem?_getD, e]
  rfl
/-- The door's own heap meets the list. -/
theorem door_met (os : Os) (args : Array Value) : laidMetH Tryd.prog Rows.fnExactWithinStepRow.laid ((World.doorLaid Tryd.prog 400 os).forCall (fun _ _ => 0) ⟨#[], args, []⟩).memory :=
  laidMetH_of_parts3 (fuel := 8) (laidMet_of_run' 8 (by kernel_rfl) (by kernel_rfl)) (by kernel_rfl) (by kernel_rfl)

set_option maxRecDepth 100000 in
theorem withinSL0_holds : Rows.FnExactWithinStepSaid :=
  OpenClaim.holds_of_wide 3 Tryd.f3 rfl rfl rfl rfl rfl rfl rfl ⟨rfl, rfl, rfl, rfl, rfl⟩ rfl rfl rfl rfl rfl (by kernel_rfl) Tryd.func3 (by kernel_rfl)
    (of_decide_eq_true (by kernel_rfl)) (by unfold Func.isWrapper; rw [if_neg (of_decide_eq_false (by kernel_rfl))]; exact ⟨rfl, rfl⟩)
    (fun os started H enc _ => law_lifted_vars (C := Tryd.checked) (s := Rows.fnExactWithinStepSpec) (laid := Rows.fnExactWithinStepRow.laid) Tryd.own started (by kernel_rfl) Tryd.func3
      (ChangeSpec.witness_shaped (enc := enc) (C := Tryd.checked) (os := os) (X := fun w _ => laidMetH Tryd.prog Rows.fnExactWithinStepRow.laid w) false (World.doorLaid Tryd.prog 400 os) #[.agg #[.int .i64 0, .int .i64 0, .int .i64 0, .int .i64 0, .int .i64 0], .int .i64 0] 8 rfl (World.shaped_of_RefB (by kernel_rfl) (by kernel_rfl)) (by kernel_rfl) (by kernel_rfl) (by kernel_rfl) (door_met os _))
      Tryd.laidOut (by kernel_rfl) rfl Tryd.underlying4 (by
        intro n hn g tt hg ht
        obtain rfl : n = "loop.example/g00939/impl.stepSquares" := by simpa using (show n ∈ ["loop.example/g00939/impl.stepSquares"] from hn)
        have e1 : Tryd.prog.globalNamed "loop.example/g00939/impl.stepSquares" = some 0 := by kernel_rfl
        have e2 : (Tryd.prog.globals[0]?).map (·.type) = some 54 := by kernel_rfl
        obtain rfl : 0 = g := Option.some.inj (e1.symm.trans hg)
        obtain rfl : 54 = tt := Option.some.inj (e2.symm.trans ht)
        exact ⟨by kernel_rfl, of_decide_eq_true (by kernel_rfl)⟩)
      (fun W base args ds gs p q hval hA hV hL => by
        have hA' : DataW.TrodAll enc Tryd.prog W 0 (fun _ => true) true Tryd.f3.params.toList args.toList ds p := hA
        have hval' : ∀ (j : Nat) t v, Tryd.f3.params[j]? = some t → args[j]? = some v → Value.okWide Tryd.prog W .any base t v := hval
        rw [Tryd.params3] at hA' hval'
        obtain ⟨v0, v1, d0, d1, p0, p1, rfl, rfl, rfl, h0, h1⟩ := trodAll_two hA'
        obtain ⟨x1, y1, x1', y1', n1, rfl⟩ := open_move (hval' 0 _ v0 rfl rfl) h0
        obtain ⟨s, rfl, rfl, rfl, wfs⟩ := open_int Tryd.underlying3 (hval' 1 _ v1 rfl rfl) h1
        have hV' : DataW.TrodVars enc Tryd.prog W (fun _ => true) ["loop.example/g00939/impl.stepSquares"] gs q := hV
        obtain ⟨_, _, _, _, g1, _, rfl, _⟩ := trodVars_one hV'
        exact ⟨rfl, withinSL0_law x1 y1 x1' y1' n1 s W (tab_here hL)⟩))

theorem withinSL0_card : Rows.FnExactWithinStepCardSaid :=
  Claim7.holds_tied_plain_at .later [] [.data] true Rows.fnExactWithinStepCard.stood.harness false
    withinSL0_holds (fun _ h => by cases h) (by kernel_rfl) (fun _ h => by cases h) fnExactWithinStep_row_tie rfl ⟨rfl, rfl⟩ (by kernel_rfl) rfl
    (fun g gn hg hgn => by
      obtain rfl : g = 3 := Option.some.inj ((show Tryd.prog.funcNamed Rows.fnExactWithinStepRow.func = some 3 by kernel_rfl).symm.trans hg) |>.symm
      obtain rfl : gn = Tryd.f3 := (Option.some.inj (Tryd.func3.symm.trans hgn)).symm
      exact ⟨by kernel_rfl, fun j t ht => by
        rw [Tryd.params3] at ht
        have hm : t ∈ [25, 3] := by simpa using Array.mem_of_getElem? ht
        have hall : ([25, 3].all fun u => !Tryd.prog.wantsStandIn u) = true := by kernel_rfl
        exact (show Tryd.prog.wantsStandIn t = false by simpa using List.all_eq_true.1 hall t hm)⟩)
    (by kernel_rfl)

end Go.Proofs.YtagfleajkalgiaaDoor
