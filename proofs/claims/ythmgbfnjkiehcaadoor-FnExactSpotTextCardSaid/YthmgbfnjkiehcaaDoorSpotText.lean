/- The exact law of SpotText holds at every argument, with the library's tables tied to the program's text. No conditions. -/
import Derived.Test.YthmgbfnjkiehcaaDoorTexta
import Derived.Test.YthmgbfnjkiehcaaDoorFrame
import Derived.Test.YthmgbfnjkiehcaaDoorTie
import Derived.Test.YthmgbfnjkiehcaaDoorCards
import Derived.Lib.LaidTab
import Derived.Stop.LaidErr
import Derived.LaidMore
import Derived.SevenTiedAt
namespace Go.Proofs.YthmgbfnjkiehcaaDoor
open Go.ChangeShapes Go.WideShapes Go.ChangeAt Go.RowKit


theorem tab_of_laid {W : World} (h : laidMetH Tryd.prog Rows.fnExactSpotTextRow.laid W) : Lib.TabIs Tryd.prog W tabName .u64 Lib.pow10Tab := by
  rw [MakeChecks.laidMetH_plain _ _ _ (by kernel_rfl)] at h
  have h1 : laidMet Tryd.prog [(tabName, Rows.laid_internal_strconv_uint64pow10)] W := laidMet.tail (laidMet.tail h)
  have e : (Rows.laid_internal_strconv_uint64pow10 : DataW Unit) = Lib.tabData .u64 Lib.pow10Tab := by kernel_rfl
  rw [e] at h1
  exact Lib.tabIs_of_head (g := 0) (by kernel_rfl) (by kernel_rfl) Tryd.underlying43 Tryd.underlying36 (by kernel_rfl) (by kernel_rfl) h1
theorem tab_here {W : World} (h : laidMetH Tryd.prog Rows.fnExactSpotTextRow.laid W) : Tab W.heap.size W := Lib.tabBelow_of_tabIs (tab_of_laid h)
/-- The door's own heap meets the list. -/
theorem door_met (os : Os) (args : Array Value) : laidMetH Tryd.prog Rows.fnExactSpotTextRow.laid ((World.doorLaid Tryd.prog 400 os).forCall (fun _ _ => 0) ⟨#[], args, []⟩).memory :=
  laidMetH_of_parts3 (fuel := 8) (laidMet_of_run' 8 (by kernel_rfl) (by kernel_rfl)) (by kernel_rfl) (by kernel_rfl)

set_option maxRecDepth 100000 in
theorem spotText_holds : Rows.FnExactSpotTextSaid :=
  OpenClaim.holds_of_wide 3 Tryd.f3 rfl rfl rfl rfl rfl rfl rfl ⟨rfl, rfl, rfl, rfl, rfl⟩ rfl rfl rfl rfl rfl (by kernel_rfl) Tryd.func3 (by kernel_rfl)
    (of_decide_eq_true (by kernel_rfl)) (by unfold Func.isWrapper; rw [if_neg (of_decide_eq_false (by kernel_rfl))]; exact ⟨rfl, rfl⟩)
    (fun os started H enc _ => law_lifted_laid (C := Tryd.checked) (s := Rows.fnExactSpotTextSpec) (laid := Rows.fnExactSpotTextRow.laid) Tryd.own started (by kernel_rfl) Tryd.func3
      (ChangeSpec.witness_shaped (enc := enc) (C := Tryd.checked) (os := os) (X := fun w _ => laidMetH Tryd.prog Rows.fnExactSpotTextRow.laid w) false (World.doorLaid Tryd.prog 400 os) #[.agg #[.int .i64 0, .int .i64 0]] 8 rfl (World.shaped_of_RefB (by kernel_rfl) (by kernel_rfl)) (by kernel_rfl) (by kernel_rfl) (by kernel_rfl) (door_met os _))
      Tryd.laidOut (by kernel_rfl) rfl Tryd.underlying4 rfl
      (fun W base args ds p hval hA _ hL => by
        have hA' : DataW.TrodAll enc Tryd.prog W 0 (fun _ => true) true Tryd.f3.params.toList args.toList ds p := hA
        have hval' : ∀ (j : Nat) t v, Tryd.f3.params[j]? = some t → args[j]? = some v → Value.okWide Tryd.prog W .any base t v := hval
        rw [Tryd.params3] at hA' hval'
        obtain ⟨v0, d0, rfl, rfl, h0⟩ := trodAll_one hA'
        obtain ⟨x, y, rfl, wx, wy⟩ := open_spot (hval' 0 _ v0 rfl rfl) h0
        exact ⟨rfl, spotText_law x y (tab_here hL)⟩))

theorem spotText_card : Rows.FnExactSpotTextCardSaid :=
  Claim7.holds_tied_plain_at .later [] [.data, .data, .data] true Rows.fnExactSpotTextCard.stood.harness false
    spotText_holds (fun _ h => by cases h) (by kernel_rfl) (fun _ h => by cases h) fnExactSpotText_row_tie rfl ⟨rfl, rfl⟩ (by kernel_rfl) rfl
    (fun g gn hg hgn => by
      obtain rfl : g = 3 := Option.some.inj ((show Tryd.prog.funcNamed Rows.fnExactSpotTextRow.func = some 3 by kernel_rfl).symm.trans hg) |>.symm
      obtain rfl : gn = Tryd.f3 := (Option.some.inj (Tryd.func3.symm.trans hgn)).symm
      exact ⟨by kernel_rfl, fun j t ht => by
        rw [Tryd.params3] at ht
        have hm : t ∈ [23] := by simpa using Array.mem_of_getElem? ht
        have hall : ([23].all fun u => !Tryd.prog.wantsStandIn u) = true := by kernel_rfl
        exact (show Tryd.prog.wantsStandIn t = false by simpa using List.all_eq_true.1 hall t hm)⟩)
    (by kernel_rfl)

end Go.Proofs.YthmgbfnjkiehcaaDoor
