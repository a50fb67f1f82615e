/- The exact law of MoveText, a tied card. No conditions but its row's. -/
import Derived.Test.YtagfleajkalgiaaDoorMvTextI
import Derived.Test.YtagfleajkalgiaaDoorOpenMv
import Derived.Test.YtagfleajkalgiaaDoorFrameLaid
import Derived.Test.YtagfleajkalgiaaDoorTie
import Derived.Test.YtagfleajkalgiaaDoorCards
import Derived.Deep.RegionHeld3
import Derived.Deep.DeepCutAuto
import Derived.Deep.DrawnRows
import Derived.Lib.LaidTab
import Derived.Stop.LaidErr
import Derived.LaidMore
import Derived.SevenTiedAt
namespace Go.Proofs.YtagfleajkalgiaaDoor
open Go.ChangeShapes Go.WideShapes Go.ChangeAt Go.RowKit


attribute [local go_sem ↓] Go.wp_at_zero Go.wp_at_succ

set_option maxRecDepth 100000 in
set_option maxHeartbeats 2000000 in
theorem moveTextL0_law (x1 y1 x1' y1' n1 : Int) (w : World) (ht : Tab w.heap.size w) :
    Calls Tryd.prog 5 #[.agg #[.int .i64 x1, .int .i64 y1, .int .i64 x1', .int .i64 y1', .int .i64 n1]] w fun e w' => e = .returned (.bool true) ∧ Below w.heap.size w w' := by
  obtain ⟨q1, q2, q3, q4, q5, q6, q7⟩ := nadd
  have HSP := Lib.hid (fun W => specMoveText_any x1 y1 x1' y1' n1 W)
  have HIM := Lib.hid (fun (W : World) (hb : Below w.heap.size w W) => moveText_any x1 y1 x1' y1' n1 (w := W) (fun x hx => ht x (hb.trans (hx.mono hb.size))))
  clear ht
  obtain ⟨T, hT⟩ : ∃ z, z = moveS x1 y1 x1' y1' n1 := ⟨_, rfl⟩
  simp only [← hT] at HSP HIM
  clear hT
  obtain ⟨ok, hok⟩ : ∃ z, z = isMv x1 y1 x1' y1' n1 := ⟨_, rfl⟩
  simp only [← hok] at HSP HIM
  clear hok
  go_enter Tryd.func5, Tryd.ntmps5
  go_wp2_with (first | (go_at_call 7; (with_reducible refine (toMove_any _ _ _ _ _ _).mono ?_; rintro e w1 ⟨rfl, hb1⟩; have hs1 := hb1.size; (try simp at hs1); (first | have hk6 := call_facts hl5 hb1 (by first | (simp; done) | (simp; omega)) | skip); (first | have hk5 := call_facts hl4 hb1 (by first | (simp; done) | (simp; omega)) | skip); (first | have hk4 := call_facts hl3 hb1 (by simp) | skip); (first | have hk3 := call_facts hl2 hb1 (by simp) | skip); (first | have hk2 := call_facts hl1 hb1 (by simp) | skip); have hk1 := call_facts (fun b h => h) hb1 (Nat.le_refl _); (first | have hl6 := hk6.1 | skip); (first | have hl5 := hk5.1 | skip); (first | have hl4 := hk4.1 | skip); (first | have hl3 := hk3.1 | skip); (first | have hl2 := hk2.1 | skip); have hl1 := hk1.1)) | (go_at_call 12; (with_reducible refine (HSP.out _).mono ?_; rintro e w1 ⟨rfl, hb1⟩; have hs1 := hb1.size; (try simp at hs1); (first | have hk6 := call_facts hl5 hb1 (by first | (simp; done) | (simp; omega)) | skip); (first | have hk5 := call_facts hl4 hb1 (by first | (simp; done) | (simp; omega)) | skip); (first | have hk4 := call_facts hl3 hb1 (by simp) | skip); (first | have hk3 := call_facts hl2 hb1 (by simp) | skip); (first | have hk2 := call_facts hl1 hb1 (by simp) | skip); have hk1 := call_facts (fun b h => h) hb1 (Nat.le_refl _); (first | have hl6 := hk6.1 | skip); (first | have hl5 := hk5.1 | skip); (first | have hl4 := hk4.1 | skip); (first | have hl3 := hk3.1 | skip); (first | have hl2 := hk2.1 | skip); have hl1 := hk1.1)) | (go_at_call 13; (with_reducible refine (HIM.out _ (by repeat (first | exact Below.refl _ _ | assumption | refine Below.drew ?_ | refine below_drewN ?_ _ | refine Below.alloc ?_ (by first | omega | (simp; done) | (simp; omega)) _ | refine Below.setCell ?_ (by first | omega | (simp; done) | (simp; omega)) _ | refine Below.trans ?_ (Below.mono (by assumption) (by first | omega | (simp; done) | (simp; omega)))))).mono ?_; rintro e w1 ⟨rfl, hb1⟩; have hs1 := hb1.size; (try simp at hs1); (first | have hk6 := call_facts hl5 hb1 (by first | (simp; done) | (simp; omega)) | skip); (first | have hk5 := call_facts hl4 hb1 (by first | (simp; done) | (simp; omega)) | skip); (first | have hk4 := call_facts hl3 hb1 (by simp) | skip); (first | have hk3 := call_facts hl2 hb1 (by simp) | skip); (first | have hk2 := call_facts hl1 hb1 (by simp) | skip); have hk1 := call_facts (fun b h => h) hb1 (Nat.le_refl _); (first | have hl6 := hk6.1 | skip); (first | have hl5 := hk5.1 | skip); (first | have hl4 := hk4.1 | skip); (first | have hl3 := hk3.1 | skip); (first | have hl2 := hk2.1 | skip); have hl1 := hk1.1)))
  go_ret
  exact ⟨rfl, (by repeat (first | exact Below.refl _ _ | assumption | refine Below.drew ?_ | refine below_drewN ?_ _ | refine Below.alloc ?_ (by first | omega | (simp; done) | (simp; omega)) _ | refine Below.setCell ?_ (by first | omega | (simp; done) | (simp; omega)) _ | refine Below.trans ?_ (Below.mono (by assumption) (by first | omega | (simp; done) | (simp; omega)))))⟩

theorem tab_of_laid {W : World} (h : laidMetH Tryd.prog Rows.fnExactMoveTextRow.laid W) : Lib.TabIs Tryd.prog W tabName .u64 Lib.pow10Tab := by
  rw [MakeChecks.laidMetH_plain _ _ _ (by kernel_rfl)] at h
  have h1 : laidMet Tryd.prog [(tabName, Rows.laid_internal_strconv_uint64pow10)] W := laidMet.tail (laidMet.tail h)
  have e : (Rows.laid_internal_strconv_uint64pow10 : DataW Unit) = Lib.tabData .u64 Lib.pow10Tab := by kernel_rfl
  rw [e] at h1
  exact Lib.tabIs_of_head (g := 1) (by kernel_rfl) (by kernel_rfl) Tryd.underlying66 Tryd.underlying59 (by kernel_rfl) (by kernel_rfl) h1
theorem tab_here {W : World} (h : laidMetH Tryd.prog Rows.fnExactMoveTextRow.laid W) : Tab W.heap.size W := Lib.tabBelow_of_tabIs (tab_of_laid h)
/-- The door's own heap meets the list. -/
theorem door_met (os : Os) (args : Array Value) : laidMetH Tryd.prog Rows.fnExactMoveTextRow.laid ((World.doorLaid Tryd.prog 400 os).forCall (fun _ _ => 0) ⟨#[], args, []⟩).memory :=
  laidMetH_of_parts3 (fuel := 8) (laidMet_of_run' 8 (by kernel_rfl) (by kernel_rfl)) (by kernel_rfl) (by kernel_rfl)

set_option maxRecDepth 100000 in
theorem moveTextL0_holds : Rows.FnExactMoveTextSaid :=
  OpenClaim.holds_of_wide 5 Tryd.f5 rfl rfl rfl rfl rfl rfl rfl ⟨rfl, rfl, rfl, rfl, rfl⟩ rfl rfl rfl rfl rfl (by kernel_rfl) Tryd.func5 (by kernel_rfl)
    (of_decide_eq_true (by kernel_rfl)) (by unfold Func.isWrapper; rw [if_neg (of_decide_eq_false (by kernel_rfl))]; exact ⟨rfl, rfl⟩)
    (fun os started H enc _ => law_lifted_laid (C := Tryd.checked) (s := Rows.fnExactMoveTextSpec) (laid := Rows.fnExactMoveTextRow.laid) Tryd.own started (by kernel_rfl) Tryd.func5
      (ChangeSpec.witness_shaped (enc := enc) (C := Tryd.checked) (os := os) (X := fun w _ => laidMetH Tryd.prog Rows.fnExactMoveTextRow.laid w) false (World.doorLaid Tryd.prog 400 os) #[.agg #[.int .i64 0, .int .i64 0, .int .i64 0, .int .i64 0, .int .i64 0]] 8 rfl (World.shaped_of_RefB (by kernel_rfl) (by kernel_rfl)) (by kernel_rfl) (by kernel_rfl) (by kernel_rfl) (door_met os _))
      Tryd.laidOut (by kernel_rfl) rfl Tryd.underlying4 rfl
      (fun W base args ds p hval hA _ hL => by
        have hA' : DataW.TrodAll enc Tryd.prog W 0 (fun _ => true) true Tryd.f5.params.toList args.toList ds p := hA
        have hval' : ∀ (j : Nat) t v, Tryd.f5.params[j]? = some t → args[j]? = some v → Value.okWide Tryd.prog W .any base t v := hval
        rw [Tryd.params5] at hA' hval'
        obtain ⟨v0, d0, rfl, rfl, h0⟩ := trodAll_one hA'
        obtain ⟨x1, y1, x1', y1', n1, rfl⟩ := open_move (hval' 0 _ v0 rfl rfl) h0
        exact ⟨rfl, moveTextL0_law x1 y1 x1' y1' n1 W (tab_here hL)⟩))

theorem moveTextL0_card : Rows.FnExactMoveTextCardSaid :=
  Claim7.holds_tied_plain_at .later [] [.data, .data, .data] true Rows.fnExactMoveTextCard.stood.harness false
    moveTextL0_holds (fun _ h => by cases h) (by kernel_rfl) (fun _ h => by cases h) fnExactMoveText_row_tie rfl ⟨rfl, rfl⟩ (by kernel_rfl) rfl
    (fun g gn hg hgn => by
      obtain rfl : g = 5 := Option.some.inj ((show Tryd.prog.funcNamed Rows.fnExactMoveTextRow.func = some 5 by kernel_rfl).symm.trans hg) |>.symm
      obtain rfl : gn = Tryd.f5 := (Option.some.inj (Tryd.func5.symm.trans hgn)).symm
      exact ⟨by kernel_rfl, fun j t ht => by
        rw [Tryd.params5] at ht
        have hm : t ∈ [25] := by simpa using Array.mem_of_getElem? ht
        have hall : ([25].all fun u => !Tryd.prog.wantsStandIn u) = true := by kernel_rfl
        exact (show Tryd.prog.wantsStandIn t = false by simpa using List.all_eq_true.1 hall t hm)⟩)
    (by kernel_rfl)

end Go.Proofs.YtagfleajkalgiaaDoor
