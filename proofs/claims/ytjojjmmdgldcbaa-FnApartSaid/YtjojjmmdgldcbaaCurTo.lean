/- Two drawn moves. No conditions but those written in each theorem. -/
import Derived.Test.YtjojjmmdgldcbaaCurMo
import Derived.Deep.RegionHeld3
import Derived.Deep.DrawnRows
import Derived.IntWalk
import Derived.Laws.AppendOwn
import Derived.Deep.DeepCutAuto
import Derived.Deep.CutBlock
import Derived.Deep.RegionWith
import Derived.StillTailTactics
namespace Go.Proofs.Ytjojjmmdgldcbaa
open Go.RowKit


attribute [local go_sem ↓] Go.wp_at_zero Go.wp_at_succ

set_option maxRecDepth 100000 in
set_option maxHeartbeats 8000000 in
theorem togetherC_any (b n' cp k : Nat) (a : Option Addr) (hk : k ≤ 600000000) {w : World} (hc : Cu w b a n' cp k) :
    Calls Try.prog 84 #[.pointer (some ⟨b, 0, none⟩)] w fun e w' => ∃ x1 y1 x2 y2 n x3 y3 x4 y4 m : Int, e = .returned (.tuple #[.agg #[.int .i64 x1, .int .i64 y1, .int .i64 x2, .int .i64 y2, .int .i64 n], .agg #[.int .i64 x3, .int .i64 y3, .int .i64 x4, .int .i64 y4, .int .i64 m]]) ∧ (0 ≤ n ∧ n ≤ 65) ∧ Cu w' b a n' cp (k + 240) ∧ w.grownBy w' (some b) := by
  have hbl := hc.lt
  have HC0 := Lib.hid hc
  go_enter Try.func84, Try.ntmps84
  go_wp2_with fail
  refine (moveC_any b n' cp k a (by omega) ((hc.made _).made _)).mono ?_
  rintro e w1 ⟨x1, y1, x2, y2, n, rfl, hn, hc1, hg1⟩
  have hl1 := hc1.lt
  go_wp2_with fail
  refine (moveC_any b n' cp (k + 100) a (by omega) hc1).mono ?_
  rintro e w2 ⟨x3, y3, x4, y4, m, rfl, hm, hc2, hg2⟩
  have hl2 := hc2.lt
  have G : ((w.alloc (.cells #[.int .i64 0, .int .i64 0, .int .i64 0, .int .i64 0, .int .i64 0] 30)).alloc (.cells #[.int .i64 0, .int .i64 0, .int .i64 0, .int .i64 0, .int .i64 0] 30)).grownBy w2 (some b) := gb_trans hg1 hg2
  have hsz := G.size
  simp at hsz
  have T2 := row_gb ((mF_made w 0 0 0 0 0 30).alloc (.cells #[.int .i64 0, .int .i64 0, .int .i64 0, .int .i64 0, .int .i64 0] 30)) G (by omega)
  have T3 := row_gb (g := (w.alloc (.cells #[.int .i64 0, .int .i64 0, .int .i64 0, .int .i64 0, .int .i64 0] 30)).heap.size) (mF_made (w.alloc (.cells #[.int .i64 0, .int .i64 0, .int .i64 0, .int .i64 0, .int .i64 0] 30)) 0 0 0 0 0 30) G (by simp; omega)
  go_upto_region 2 with fail
  obtain ⟨W0, hW0⟩ : ∃ W0, W0 = (w2.alloc (.cells #[.int .i64 x1, .int .i64 y1, .int .i64 x2, .int .i64 y2, .int .i64 n] 30)).alloc (.cells #[.int .i64 x3, .int .i64 y3, .int .i64 x4, .int .i64 y4, .int .i64 m] 30) := ⟨_, rfl⟩
  have PA : W0.rowIs w2.heap.size 30 5 (mF x1 y1 x2 y2 n) := by rw [hW0]; exact (mF_made _ _ _ _ _ _ _).alloc _
  have PB : W0.rowIs (w2.heap.size + 1) 30 5 (mF x3 y3 x4 y4 m) := by rw [hW0]; have := mF_made (w2.alloc (.cells #[.int .i64 x1, .int .i64 y1, .int .i64 x2, .int .i64 y2, .int .i64 n] 30)) x3 y3 x4 y4 m 30; simpa using this
  have PC : W0.rowIs w.heap.size 30 5 (mF 0 0 0 0 0) := by rw [hW0]; exact (T2.alloc _).alloc _
  have PD : W0.rowIs (w.heap.size + 1) 30 5 (mF 0 0 0 0 0) := by rw [hW0]; have := (T3.alloc (.cells #[.int .i64 x1, .int .i64 y1, .int .i64 x2, .int .i64 y2, .int .i64 n] 30)).alloc (.cells #[.int .i64 x3, .int .i64 y3, .int .i64 x4, .int .i64 y4, .int .i64 m] 30); simpa using this
  have hcA : Cu W0 b a n' cp (k + 200) := by rw [hW0]; exact (hc2.made _).made _
  have GW : w.grownBy W0 (some b) := by rw [hW0]; exact gb_made (gb_made (gb_trans (gb_made (gb_made (gb_refl _ _) _) _) G) _) _
  rw [← hW0]
  obtain ⟨ga, hga⟩ : ∃ g, g = w2.heap.size := ⟨_, rfl⟩
  obtain ⟨gb, hgb⟩ : ∃ g, g = w2.heap.size + 1 := ⟨_, rfl⟩
  obtain ⟨g2, hg2'⟩ : ∃ g, g = w.heap.size := ⟨_, rfl⟩
  obtain ⟨g3, hg3'⟩ : ∃ g, g = w.heap.size + 1 := ⟨_, rfl⟩
  have ne0 : ga ≠ gb := by omega
  have ne1 : gb ≠ ga := by omega
  have ne2 : ga ≠ g2 := by omega
  have ne3 : g2 ≠ ga := by omega
  have ne4 : ga ≠ g3 := by omega
  have ne5 : g3 ≠ ga := by omega
  have ne6 : gb ≠ g2 := by omega
  have ne7 : g2 ≠ gb := by omega
  have ne8 : gb ≠ g3 := by omega
  have ne9 : g3 ≠ gb := by omega
  have ne10 : g2 ≠ g3 := by omega
  have ne11 : g3 ≠ g2 := by omega
  have ne12 : ga ≠ b := by omega
  have ne13 : gb ≠ b := by omega
  have ne14 : g2 ≠ b := by omega
  have ne15 : g3 ≠ b := by omega
  have nn0 : ¬ ga = gb := by omega
  have nn1 : ¬ gb = ga := by omega
  have nn2 : ¬ ga = g2 := by omega
  have nn3 : ¬ g2 = ga := by omega
  have nn4 : ¬ ga = g3 := by omega
  have nn5 : ¬ g3 = ga := by omega
  have nn6 : ¬ gb = g2 := by omega
  have nn7 : ¬ g2 = gb := by omega
  have nn8 : ¬ gb = g3 := by omega
  have nn9 : ¬ g3 = gb := by omega
  have nn10 : ¬ g2 = g3 := by omega
  have nn11 : ¬ g3 = g2 := by omega
  have nn12 : ¬ ga = b := by omega
  have nn13 : ¬ gb = b := by omega
  have nn14 : ¬ g2 = b := by omega
  have nn15 : ¬ g3 = b := by omega
  have HL2 := Lib.hid (le_some (show w.heap.size ≤ g2 by omega))
  have HL3 := Lib.hid (le_some (show w.heap.size ≤ g3 by omega))
  have HLB := Lib.hid (le_some (show w.heap.size ≤ gb by omega))
  rw [← hga] at PA
  rw [← hgb] at PB
  rw [← hg2'] at PC
  rw [← hg3'] at PD
  rw [← hgb, ← hga, ← hg3', ← hg2']
  clear hW0 hc1 hc2 hg1 hg2 G T2 T3 hc hl1 hl2 hsz hga hgb hg2' hg3' hm
  go_wp2_with fail
  refine (pick_any 4 (by omega) b n' cp (k + 200) a (by omega) hcA).mono ?_
  rintro e w3 ⟨r3, rfl, p30, p31, hc3, hg3⟩
  have SA := row_gb PA hg3 ne12
  have SB := row_gb PB hg3 ne13
  have SC := row_gb PC hg3 ne14
  have SD := row_gb PD hg3 ne15
  have GS := gb_trans GW hg3
  clear PA PB PC PD hcA hg3 GW p30 p31
  obtain ⟨a_0, a_1, a_2, a_3, a_4, a_f0, a_f1, a_f2, a_f3, a_f4⟩ := mF_cells SA
  obtain ⟨b_0, b_1, b_2, b_3, b_4, b_f0, b_f1, b_f2, b_f3, b_f4⟩ := mF_cells SB
  go_upto_block 0 with fail
  go_cut [] (fun wx => ∃ x3 y3 x4 y4 m : Int, (Hid (wx.rowIs ga 30 5 (mF x1 y1 x2 y2 n)) ∧ Hid (wx.rowIs gb 30 5 (mF x3 y3 x4 y4 m)) ∧ Hid (wx.rowIs g2 30 5 (mF 0 0 0 0 0)) ∧ Hid (wx.rowIs g3 30 5 (mF 0 0 0 0 0)) ∧ Cu wx b a n' cp (k + 210) ∧ w.grownBy wx (some b)))
  case first =>
    by_cases q0 : r3 = 0
    · subst q0
      go_upto_region 5 with fail
      have TA := (((((SA.setOther (a := ⟨gb, 0, none⟩) ne0 (.int .i64 (x2))).setOther (a := ⟨gb, 1, none⟩) ne0 (.int .i64 (y2))).setOther (a := ⟨gb, 2, none⟩) ne0 (.int .i64 (x1))).setOther (a := ⟨gb, 3, none⟩) ne0 (.int .i64 (y1))).setOther (a := ⟨gb, 4, none⟩) ne0 (.int .i64 (0)))
      have TC := (((((SC.setOther (a := ⟨gb, 0, none⟩) ne7 (.int .i64 (x2))).setOther (a := ⟨gb, 1, none⟩) ne7 (.int .i64 (y2))).setOther (a := ⟨gb, 2, none⟩) ne7 (.int .i64 (x1))).setOther (a := ⟨gb, 3, none⟩) ne7 (.int .i64 (y1))).setOther (a := ⟨gb, 4, none⟩) ne7 (.int .i64 (0)))
      have TD := (((((SD.setOther (a := ⟨gb, 0, none⟩) ne9 (.int .i64 (x2))).setOther (a := ⟨gb, 1, none⟩) ne9 (.int .i64 (y2))).setOther (a := ⟨gb, 2, none⟩) ne9 (.int .i64 (x1))).setOther (a := ⟨gb, 3, none⟩) ne9 (.int .i64 (y1))).setOther (a := ⟨gb, 4, none⟩) ne9 (.int .i64 (0)))
      have TB := (mF_set4 (0) (mF_set3 (y1) (mF_set2 (x1) (mF_set1 (y2) (mF_set0 (x2) SB)))))
      have hsT : w3.grownBy (((((w3.setCell ⟨gb, 0, none⟩ (.int .i64 (x2))).setCell ⟨gb, 1, none⟩ (.int .i64 (y2))).setCell ⟨gb, 2, none⟩ (.int .i64 (x1))).setCell ⟨gb, 3, none⟩ (.int .i64 (y1))).setCell ⟨gb, 4, none⟩ (.int .i64 (0))) (some gb) := (gb_trans (gb_trans (gb_trans (gb_trans (gb_set _ _ _ _) (gb_set _ _ _ _)) (gb_set _ _ _ _)) (gb_set _ _ _ _)) (gb_set _ _ _ _))
      have CT := HC0.out.awayB hc3 hsT HLB.out
      have GT := gb_ownB GS hsT HLB.out
      clear hsT
      obtain ⟨W5, hW5⟩ : ∃ z, z = (((((w3.setCell ⟨gb, 0, none⟩ (.int .i64 (x2))).setCell ⟨gb, 1, none⟩ (.int .i64 (y2))).setCell ⟨gb, 2, none⟩ (.int .i64 (x1))).setCell ⟨gb, 3, none⟩ (.int .i64 (y1))).setCell ⟨gb, 4, none⟩ (.int .i64 (0))) := ⟨_, rfl⟩
      rw [← hW5] at TA TB TC TD CT GT ⊢
      clear hW5
      clear a_0 a_1 a_2 a_3 a_4 b_0 b_1 b_2 b_3 b_4 a_f0 a_f1 a_f2 a_f3 a_f4 b_f0 b_f1 b_f2 b_f3 b_f4 SA SB SC SD hc3 GS
      obtain ⟨b_0, b_1, b_2, b_3, b_4, b_f0, b_f1, b_f2, b_f3, b_f4⟩ := mF_cells TB
      go_region_with (go_at_call 86; (refine (pick_any 17 (by omega) b n' cp (k + 200 + 2) a (by omega) CT.drewC).mono ?_); rintro e w7 ⟨q7, rfl, pq0, pq1, hc7, hg7⟩; have UA := row_gb TA.drew hg7 ne12; have UB := row_gb TB.drew hg7 ne13; have UC := row_gb TC.drew hg7 ne14; have UD := row_gb TD.drew hg7 ne15; have GU := gb_trans (gb_drewC GT) hg7; obtain ⟨u_0, u_1, u_2, u_3, u_4, u_f0, u_f1, u_f2, u_f3, u_f4⟩ := mF_cells UB)
      all_goals
        have YA := (UA.setOther (a := ⟨gb, 0, none⟩) ne0 (.int .i64 (IntKind.i64.wrap (x2 + IntKind.i64.wrap (q7 - 8)))))
        have YC := (UC.setOther (a := ⟨gb, 0, none⟩) ne7 (.int .i64 (IntKind.i64.wrap (x2 + IntKind.i64.wrap (q7 - 8)))))
        have YD := (UD.setOther (a := ⟨gb, 0, none⟩) ne9 (.int .i64 (IntKind.i64.wrap (x2 + IntKind.i64.wrap (q7 - 8)))))
        have YB := (mF_set0 (IntKind.i64.wrap (x2 + IntKind.i64.wrap (q7 - 8))) UB)
        have hsY : w7.grownBy (w7.setCell ⟨gb, 0, none⟩ (.int .i64 (IntKind.i64.wrap (x2 + IntKind.i64.wrap (q7 - 8))))) (some gb) := gb_set _ _ _ _
        have CY := (HC0.out.awayB hc7 hsY HLB.out).more (show _ ≤ k + 210 by omega)
        have GY := gb_ownB GU hsY HLB.out
        have XA := Lib.hid YA
        have XB := Lib.hid YB
        have XC := Lib.hid YC
        have XD := Lib.hid YD
        have HCY := Lib.hid CY
        have HGY := Lib.hid GY
        clear YA YB YC YD CY GY hsY
        go_wp2
        go_meet
        exact ⟨_, _, _, _, _, XA, XB, XC, XD, HCY.out, HGY.out⟩
    by_cases q1 : r3 = 1
    · subst q1
      go_upto_region 8 with fail
      have TA := (((((SA.setOther (a := ⟨gb, 0, none⟩) ne0 (.int .i64 (x1))).setOther (a := ⟨gb, 1, none⟩) ne0 (.int .i64 (y1))).setOther (a := ⟨gb, 2, none⟩) ne0 (.int .i64 (x2))).setOther (a := ⟨gb, 3, none⟩) ne0 (.int .i64 (y2))).setOther (a := ⟨gb, 4, none⟩) ne0 (.int .i64 (n)))
      have TC := (((((SC.setOther (a := ⟨gb, 0, none⟩) ne7 (.int .i64 (x1))).setOther (a := ⟨gb, 1, none⟩) ne7 (.int .i64 (y1))).setOther (a := ⟨gb, 2, none⟩) ne7 (.int .i64 (x2))).setOther (a := ⟨gb, 3, none⟩) ne7 (.int .i64 (y2))).setOther (a := ⟨gb, 4, none⟩) ne7 (.int .i64 (n)))
      have TD := (((((SD.setOther (a := ⟨gb, 0, none⟩) ne9 (.int .i64 (x1))).setOther (a := ⟨gb, 1, none⟩) ne9 (.int .i64 (y1))).setOther (a := ⟨gb, 2, none⟩) ne9 (.int .i64 (x2))).setOther (a := ⟨gb, 3, none⟩) ne9 (.int .i64 (y2))).setOther (a := ⟨gb, 4, none⟩) ne9 (.int .i64 (n)))
      have TB := (mF_set4 (n) (mF_set3 (y2) (mF_set2 (x2) (mF_set1 (y1) (mF_set0 (x1) SB)))))
      have hsT : w3.grownBy (((((w3.setCell ⟨gb, 0, none⟩ (.int .i64 (x1))).setCell ⟨gb, 1, none⟩ (.int .i64 (y1))).setCell ⟨gb, 2, none⟩ (.int .i64 (x2))).setCell ⟨gb, 3, none⟩ (.int .i64 (y2))).setCell ⟨gb, 4, none⟩ (.int .i64 (n))) (some gb) := (gb_trans (gb_trans (gb_trans (gb_trans (gb_set _ _ _ _) (gb_set _ _ _ _)) (gb_set _ _ _ _)) (gb_set _ _ _ _)) (gb_set _ _ _ _))
      have CT := HC0.out.awayB hc3 hsT HLB.out
      have GT := gb_ownB GS hsT HLB.out
      clear hsT
      obtain ⟨W5, hW5⟩ : ∃ z, z = (((((w3.setCell ⟨gb, 0, none⟩ (.int .i64 (x1))).setCell ⟨gb, 1, none⟩ (.int .i64 (y1))).setCell ⟨gb, 2, none⟩ (.int .i64 (x2))).setCell ⟨gb, 3, none⟩ (.int .i64 (y2))).setCell ⟨gb, 4, none⟩ (.int .i64 (n))) := ⟨_, rfl⟩
      rw [← hW5] at TA TB TC TD CT GT ⊢
      clear hW5
      clear a_0 a_1 a_2 a_3 a_4 b_0 b_1 b_2 b_3 b_4 a_f0 a_f1 a_f2 a_f3 a_f4 b_f0 b_f1 b_f2 b_f3 b_f4 SA SB SC SD hc3 GS
      obtain ⟨b_0, b_1, b_2, b_3, b_4, b_f0, b_f1, b_f2, b_f3, b_f4⟩ := mF_cells TB
      go_cut [] (fun wx => ∃ v : Int, Hid (wx.rowIs ga 30 5 (mF x1 y1 x2 y2 n)) ∧ Hid (wx.rowIs gb 30 5 (mF x1 v x2 y2 n)) ∧ Hid (wx.rowIs g2 30 5 (mF 0 0 0 0 0)) ∧ Hid (wx.rowIs g3 30 5 (mF 0 0 0 0 0)) ∧ Cu wx b a n' cp (k + 205) ∧ w.grownBy wx (some b))
      case first =>
        go_region_with (go_at_call 86; (refine (pick_any 17 (by omega) b n' cp (k + 200 + 2) a (by omega) CT.drewC).mono ?_); rintro e w7 ⟨q7, rfl, pq0, pq1, hc7, hg7⟩; have UA := row_gb TA.drew hg7 ne12; have UB := row_gb TB.drew hg7 ne13; have UC := row_gb TC.drew hg7 ne14; have UD := row_gb TD.drew hg7 ne15; have GU := gb_trans (gb_drewC GT) hg7; obtain ⟨u_0, u_1, u_2, u_3, u_4, u_f0, u_f1, u_f2, u_f3, u_f4⟩ := mF_cells UB)
        all_goals
          have YA := (UA.setOther (a := ⟨gb, 1, none⟩) ne0 (.int .i64 (IntKind.i64.wrap (y1 + q7))))
          have YC := (UC.setOther (a := ⟨gb, 1, none⟩) ne7 (.int .i64 (IntKind.i64.wrap (y1 + q7))))
          have YD := (UD.setOther (a := ⟨gb, 1, none⟩) ne9 (.int .i64 (IntKind.i64.wrap (y1 + q7))))
          have YB := (mF_set1 (IntKind.i64.wrap (y1 + q7)) UB)
          have hsY : w7.grownBy (w7.setCell ⟨gb, 1, none⟩ (.int .i64 (IntKind.i64.wrap (y1 + q7)))) (some gb) := gb_set _ _ _ _
          have CY := (HC0.out.awayB hc7 hsY HLB.out).more (show _ ≤ k + 205 by omega)
          have GY := gb_ownB GU hsY HLB.out
          have XA := Lib.hid YA
          have XB := Lib.hid YB
          have XC := Lib.hid YC
          have XD := Lib.hid YD
          have HCY := Lib.hid CY
          have HGY := Lib.hid GY
          clear YA YB YC YD CY GY hsY
          go_wp2
          go_meet
          exact ⟨_, XA, XB, XC, XD, HCY.out, HGY.out⟩
      case rest =>
        obtain ⟨v, ZA, ZB, ZC, ZD, hc8, G8⟩ := hcut
        obtain ⟨W8, rfl⟩ : ∃ x, x = wc := ⟨_, rfl⟩
        have TA := ZA.out
        have TB := ZB.out
        have TC := ZC.out
        have TD := ZD.out
        clear ZA ZB ZC ZD b_0 b_1 b_2 b_3 b_4 b_f0 b_f1 b_f2 b_f3 b_f4 CT GT
        obtain ⟨b_0, b_1, b_2, b_3, b_4, b_f0, b_f1, b_f2, b_f3, b_f4⟩ := mF_cells TB
        go_upto_region 9 with fail
        go_region_with (go_at_call 86; (refine (pick_any 17 (by omega) b n' cp (k + 205) a (by omega) hc8.drewC).mono ?_); rintro e w9 ⟨q9, rfl, pq0, pq1, hc9, hg9⟩; have UA := row_gb TA.drew hg9 ne12; have UB := row_gb TB.drew hg9 ne13; have UC := row_gb TC.drew hg9 ne14; have UD := row_gb TD.drew hg9 ne15; have GU := gb_trans (gb_drewC G8) hg9; obtain ⟨u_0, u_1, u_2, u_3, u_4, u_f0, u_f1, u_f2, u_f3, u_f4⟩ := mF_cells UB)
        all_goals
          have YA := (UA.setOther (a := ⟨gb, 3, none⟩) ne0 (.int .i64 (IntKind.i64.wrap (y2 + q9))))
          have YC := (UC.setOther (a := ⟨gb, 3, none⟩) ne7 (.int .i64 (IntKind.i64.wrap (y2 + q9))))
          have YD := (UD.setOther (a := ⟨gb, 3, none⟩) ne9 (.int .i64 (IntKind.i64.wrap (y2 + q9))))
          have YB := (mF_set3 (IntKind.i64.wrap (y2 + q9)) UB)
          have hsY : w9.grownBy (w9.setCell ⟨gb, 3, none⟩ (.int .i64 (IntKind.i64.wrap (y2 + q9)))) (some gb) := gb_set _ _ _ _
          have CY := (HC0.out.awayB hc9 hsY HLB.out).more (show _ ≤ k + 210 by omega)
          have GY := gb_ownB GU hsY HLB.out
          have XA := Lib.hid YA
          have XB := Lib.hid YB
          have XC := Lib.hid YC
          have XD := Lib.hid YD
          have HCY := Lib.hid CY
          have HGY := Lib.hid GY
          clear YA YB YC YD CY GY hsY
          go_wp2
          go_meet
          exact ⟨_, _, _, _, _, XA, XB, XC, XD, HCY.out, HGY.out⟩
    · have e0 : (r3 == 0) = false := by simpa using q0
      have e1 : (r3 == 1) = false := by simpa using q1
      have XA := Lib.hid SA
      have XB := Lib.hid SB
      have XC := Lib.hid SC
      have XD := Lib.hid SD
      go_wp2
      go_meet
      exact ⟨_, _, _, _, _, XA, XB, XC, XD, hc3.more (by omega), GS⟩
  case rest =>
    obtain ⟨x3', y3', x4', y4', m', RA, RB, RC, RD, hcx, GX⟩ := hcut
    obtain ⟨W10, rfl⟩ : ∃ x, x = wc := ⟨_, rfl⟩
    clear SA SB SC SD hc3 GS a_0 a_1 a_2 a_3 a_4 b_0 b_1 b_2 b_3 b_4 a_f0 a_f1 a_f2 a_f3 a_f4 b_f0 b_f1 b_f2 b_f3 b_f4
    have QA := RA.out
    have QB := RB.out
    have QC := RC.out
    have QD := RD.out
    go_wp2_with fail
    refine (one_any 12 (by omega) b n' cp (k + 210) a (by omega) hcx).mono ?_
    rintro e w11 ⟨o, rfl, hc11, hg11⟩
    have VA := row_gb QA hg11 ne12
    have VB := row_gb QB hg11 ne13
    have VC := row_gb QC hg11 ne14
    have VD := row_gb QD hg11 ne15
    have GV := gb_trans GX hg11
    clear QA QB QC QD RA RB RC RD hcx GX hg11
    obtain ⟨a_0, a_1, a_2, a_3, a_4, a_f0, a_f1, a_f2, a_f3, a_f4⟩ := mF_cells VA
    obtain ⟨b_0, b_1, b_2, b_3, b_4, b_f0, b_f1, b_f2, b_f3, b_f4⟩ := mF_cells VB
    cases o
    · go_upto_region 12 with fail
      have IA := (VA.setOther (a := ⟨gb, 4, none⟩) ne0 (.int .i64 (n)))
      have IC := (VC.setOther (a := ⟨gb, 4, none⟩) ne7 (.int .i64 (n)))
      have ID := (VD.setOther (a := ⟨gb, 4, none⟩) ne9 (.int .i64 (n)))
      have IB := (mF_set4 (n) VB)
      have hsI : w11.grownBy (w11.setCell ⟨gb, 4, none⟩ (.int .i64 (n))) (some gb) := (gb_set _ _ _ _)
      have CI := HC0.out.awayB hc11 hsI HLB.out
      have GI := gb_ownB GV hsI HLB.out
      clear hsI
      obtain ⟨W12, hW12⟩ : ∃ z, z = (w11.setCell ⟨gb, 4, none⟩ (.int .i64 (n))) := ⟨_, rfl⟩
      rw [← hW12] at IA IB IC ID CI GI ⊢
      clear hW12
      clear a_0 a_1 a_2 a_3 a_4 b_0 b_1 b_2 b_3 b_4 a_f0 a_f1 a_f2 a_f3 a_f4 b_f0 b_f1 b_f2 b_f3 b_f4 VA VB VC VD hc11 GV
      obtain ⟨a_0, a_1, a_2, a_3, a_4, a_f0, a_f1, a_f2, a_f3, a_f4⟩ := mF_cells IA
      obtain ⟨b_0, b_1, b_2, b_3, b_4, b_f0, b_f1, b_f2, b_f3, b_f4⟩ := mF_cells IB
      obtain ⟨c_0, c_1, c_2, c_3, c_4, c_f0, c_f1, c_f2, c_f3, c_f4⟩ := mF_cells IC
      obtain ⟨d_0, d_1, d_2, d_3, d_4, d_f0, d_f1, d_f2, d_f3, d_f4⟩ := mF_cells ID
      go_region
      all_goals
        go_wp2
        first | (have h2 : W12.grownBy (((((W12.setCell ⟨g2, 0, none⟩ (.int .i64 (x1))).setCell ⟨g2, 1, none⟩ (.int .i64 (y1))).setCell ⟨g2, 2, none⟩ (.int .i64 (x2))).setCell ⟨g2, 3, none⟩ (.int .i64 (y2))).setCell ⟨g2, 4, none⟩ (.int .i64 (n))) (some g2) := (gb_trans (gb_trans (gb_trans (gb_trans (gb_set _ _ _ _) (gb_set _ _ _ _)) (gb_set _ _ _ _)) (gb_set _ _ _ _)) (gb_set _ _ _ _)); have h3 : (((((W12.setCell ⟨g2, 0, none⟩ (.int .i64 (x1))).setCell ⟨g2, 1, none⟩ (.int .i64 (y1))).setCell ⟨g2, 2, none⟩ (.int .i64 (x2))).setCell ⟨g2, 3, none⟩ (.int .i64 (y2))).setCell ⟨g2, 4, none⟩ (.int .i64 (n))).grownBy (World.drew ((((((((((W12.setCell ⟨g2, 0, none⟩ (.int .i64 (x1))).setCell ⟨g2, 1, none⟩ (.int .i64 (y1))).setCell ⟨g2, 2, none⟩ (.int .i64 (x2))).setCell ⟨g2, 3, none⟩ (.int .i64 (y2))).setCell ⟨g2, 4, none⟩ (.int .i64 (n))).setCell ⟨g3, 0, none⟩ (.int .i64 (x3'))).setCell ⟨g3, 1, none⟩ (.int .i64 (y3'))).setCell ⟨g3, 2, none⟩ (.int .i64 (x4'))).setCell ⟨g3, 3, none⟩ (.int .i64 (y4'))).setCell ⟨g3, 4, none⟩ (.int .i64 (n)))) (some g3) := gb_drewC (gb_trans (gb_trans (gb_trans (gb_trans (gb_set _ _ _ _) (gb_set _ _ _ _)) (gb_set _ _ _ _)) (gb_set _ _ _ _)) (gb_set _ _ _ _)); have P1 := HC0.out.awayB (HC0.out.awayB CI h2 HL2.out) h3 HL3.out; have P2 := gb_ownB (gb_ownB GI h2 HL2.out) h3 HL3.out; have E2 : (World.drew ((((((((((W12.setCell ⟨g2, 0, none⟩ (.int .i64 (x1))).setCell ⟨g2, 1, none⟩ (.int .i64 (y1))).setCell ⟨g2, 2, none⟩ (.int .i64 (x2))).setCell ⟨g2, 3, none⟩ (.int .i64 (y2))).setCell ⟨g2, 4, none⟩ (.int .i64 (n))).setCell ⟨g3, 0, none⟩ (.int .i64 (x3'))).setCell ⟨g3, 1, none⟩ (.int .i64 (y3'))).setCell ⟨g3, 2, none⟩ (.int .i64 (x4'))).setCell ⟨g3, 3, none⟩ (.int .i64 (y4'))).setCell ⟨g3, 4, none⟩ (.int .i64 (n)))).rowIs g2 30 5 (mF x1 y1 x2 y2 n) := (((((((mF_set4 (n) (mF_set3 (y2) (mF_set2 (x2) (mF_set1 (y1) (mF_set0 (x1) IC))))).setOther (a := ⟨g3, 0, none⟩) ne10 (.int .i64 (x3'))).setOther (a := ⟨g3, 1, none⟩) ne10 (.int .i64 (y3'))).setOther (a := ⟨g3, 2, none⟩) ne10 (.int .i64 (x4'))).setOther (a := ⟨g3, 3, none⟩) ne10 (.int .i64 (y4'))).setOther (a := ⟨g3, 4, none⟩) ne10 (.int .i64 (n)))).drew; have E3 : (World.drew ((((((((((W12.setCell ⟨g2, 0, none⟩ (.int .i64 (x1))).setCell ⟨g2, 1, none⟩ (.int .i64 (y1))).setCell ⟨g2, 2, none⟩ (.int .i64 (x2))).setCell ⟨g2, 3, none⟩ (.int .i64 (y2))).setCell ⟨g2, 4, none⟩ (.int .i64 (n))).setCell ⟨g3, 0, none⟩ (.int .i64 (x3'))).setCell ⟨g3, 1, none⟩ (.int .i64 (y3'))).setCell ⟨g3, 2, none⟩ (.int .i64 (x4'))).setCell ⟨g3, 3, none⟩ (.int .i64 (y4'))).setCell ⟨g3, 4, none⟩ (.int .i64 (n)))).rowIs g3 30 5 (mF x3' y3' x4' y4' n) := ((mF_set4 (n) (mF_set3 (y4') (mF_set2 (x4') (mF_set1 (y3') (mF_set0 (x3') (((((ID.setOther (a := ⟨g2, 0, none⟩) ne11 (.int .i64 (x1))).setOther (a := ⟨g2, 1, none⟩) ne11 (.int .i64 (y1))).setOther (a := ⟨g2, 2, none⟩) ne11 (.int .i64 (x2))).setOther (a := ⟨g2, 3, none⟩) ne11 (.int .i64 (y2))).setOther (a := ⟨g2, 4, none⟩) ne11 (.int .i64 (n))))))))).drew; obtain ⟨WF, hWF⟩ : ∃ z, z = (World.drew ((((((((((W12.setCell ⟨g2, 0, none⟩ (.int .i64 (x1))).setCell ⟨g2, 1, none⟩ (.int .i64 (y1))).setCell ⟨g2, 2, none⟩ (.int .i64 (x2))).setCell ⟨g2, 3, none⟩ (.int .i64 (y2))).setCell ⟨g2, 4, none⟩ (.int .i64 (n))).setCell ⟨g3, 0, none⟩ (.int .i64 (x3'))).setCell ⟨g3, 1, none⟩ (.int .i64 (y3'))).setCell ⟨g3, 2, none⟩ (.int .i64 (x4'))).setCell ⟨g3, 3, none⟩ (.int .i64 (y4'))).setCell ⟨g3, 4, none⟩ (.int .i64 (n)))) := ⟨_, rfl⟩; rw [← hWF] at E2 E3 P1 P2 ⊢; clear hWF; obtain ⟨u_0, u_1, u_2, u_3, u_4, u_f0, u_f1, u_f2, u_f3, u_f4⟩ := mF_cells E2; obtain ⟨v_0, v_1, v_2, v_3, v_4, v_f0, v_f1, v_f2, v_f3, v_f4⟩ := mF_cells E3; clear E2 E3; exact bodyPost_ret (v := .tuple #[.agg #[.int .i64 x1, .int .i64 y1, .int .i64 x2, .int .i64 y2, .int .i64 n], .agg #[.int .i64 x3', .int .i64 y3', .int .i64 x4', .int .i64 y4', .int .i64 n]]) (by simp [results, Try.results84, go_sem, u_0, u_1, u_2, u_3, u_4, v_0, v_1, v_2, v_3, v_4]) rfl ⟨x1, y1, x2, y2, n, x3', y3', x4', y4', n, rfl, hn, P1.more (by omega), P2⟩) | (have h2 : W12.grownBy (((((W12.setCell ⟨g3, 0, none⟩ (.int .i64 (x3'))).setCell ⟨g3, 1, none⟩ (.int .i64 (y3'))).setCell ⟨g3, 2, none⟩ (.int .i64 (x4'))).setCell ⟨g3, 3, none⟩ (.int .i64 (y4'))).setCell ⟨g3, 4, none⟩ (.int .i64 (n))) (some g3) := (gb_trans (gb_trans (gb_trans (gb_trans (gb_set _ _ _ _) (gb_set _ _ _ _)) (gb_set _ _ _ _)) (gb_set _ _ _ _)) (gb_set _ _ _ _)); have h3 : (((((W12.setCell ⟨g3, 0, none⟩ (.int .i64 (x3'))).setCell ⟨g3, 1, none⟩ (.int .i64 (y3'))).setCell ⟨g3, 2, none⟩ (.int .i64 (x4'))).setCell ⟨g3, 3, none⟩ (.int .i64 (y4'))).setCell ⟨g3, 4, none⟩ (.int .i64 (n))).grownBy (World.drew ((((((((((W12.setCell ⟨g3, 0, none⟩ (.int .i64 (x3'))).setCell ⟨g3, 1, none⟩ (.int .i64 (y3'))).setCell ⟨g3, 2, none⟩ (.int .i64 (x4'))).setCell ⟨g3, 3, none⟩ (.int .i64 (y4'))).setCell ⟨g3, 4, none⟩ (.int .i64 (n))).setCell ⟨g2, 0, none⟩ (.int .i64 (x1))).setCell ⟨g2, 1, none⟩ (.int .i64 (y1))).setCell ⟨g2, 2, none⟩ (.int .i64 (x2))).setCell ⟨g2, 3, none⟩ (.int .i64 (y2))).setCell ⟨g2, 4, none⟩ (.int .i64 (n)))) (some g2) := gb_drewC (gb_trans (gb_trans (gb_trans (gb_trans (gb_set _ _ _ _) (gb_set _ _ _ _)) (gb_set _ _ _ _)) (gb_set _ _ _ _)) (gb_set _ _ _ _)); have P1 := HC0.out.awayB (HC0.out.awayB CI h2 HL3.out) h3 HL2.out; have P2 := gb_ownB (gb_ownB GI h2 HL3.out) h3 HL2.out; have E2 : (World.drew ((((((((((W12.setCell ⟨g3, 0, none⟩ (.int .i64 (x3'))).setCell ⟨g3, 1, none⟩ (.int .i64 (y3'))).setCell ⟨g3, 2, none⟩ (.int .i64 (x4'))).setCell ⟨g3, 3, none⟩ (.int .i64 (y4'))).setCell ⟨g3, 4, none⟩ (.int .i64 (n))).setCell ⟨g2, 0, none⟩ (.int .i64 (x1))).setCell ⟨g2, 1, none⟩ (.int .i64 (y1))).setCell ⟨g2, 2, none⟩ (.int .i64 (x2))).setCell ⟨g2, 3, none⟩ (.int .i64 (y2))).setCell ⟨g2, 4, none⟩ (.int .i64 (n)))).rowIs g2 30 5 (mF x1 y1 x2 y2 n) := ((mF_set4 (n) (mF_set3 (y2) (mF_set2 (x2) (mF_set1 (y1) (mF_set0 (x1) (((((IC.setOther (a := ⟨g3, 0, none⟩) ne10 (.int .i64 (x3'))).setOther (a := ⟨g3, 1, none⟩) ne10 (.int .i64 (y3'))).setOther (a := ⟨g3, 2, none⟩) ne10 (.int .i64 (x4'))).setOther (a := ⟨g3, 3, none⟩) ne10 (.int .i64 (y4'))).setOther (a := ⟨g3, 4, none⟩) ne10 (.int .i64 (n))))))))).drew; have E3 : (World.drew ((((((((((W12.setCell ⟨g3, 0, none⟩ (.int .i64 (x3'))).setCell ⟨g3, 1, none⟩ (.int .i64 (y3'))).setCell ⟨g3, 2, none⟩ (.int .i64 (x4'))).setCell ⟨g3, 3, none⟩ (.int .i64 (y4'))).setCell ⟨g3, 4, none⟩ (.int .i64 (n))).setCell ⟨g2, 0, none⟩ (.int .i64 (x1))).setCell ⟨g2, 1, none⟩ (.int .i64 (y1))).setCell ⟨g2, 2, none⟩ (.int .i64 (x2))).setCell ⟨g2, 3, none⟩ (.int .i64 (y2))).setCell ⟨g2, 4, none⟩ (.int .i64 (n)))).rowIs g3 30 5 (mF x3' y3' x4' y4' n) := (((((((mF_set4 (n) (mF_set3 (y4') (mF_set2 (x4') (mF_set1 (y3') (mF_set0 (x3') ID))))).setOther (a := ⟨g2, 0, none⟩) ne11 (.int .i64 (x1))).setOther (a := ⟨g2, 1, none⟩) ne11 (.int .i64 (y1))).setOther (a := ⟨g2, 2, none⟩) ne11 (.int .i64 (x2))).setOther (a := ⟨g2, 3, none⟩) ne11 (.int .i64 (y2))).setOther (a := ⟨g2, 4, none⟩) ne11 (.int .i64 (n)))).drew; obtain ⟨WF, hWF⟩ : ∃ z, z = (World.drew ((((((((((W12.setCell ⟨g3, 0, none⟩ (.int .i64 (x3'))).setCell ⟨g3, 1, none⟩ (.int .i64 (y3'))).setCell ⟨g3, 2, none⟩ (.int .i64 (x4'))).setCell ⟨g3, 3, none⟩ (.int .i64 (y4'))).setCell ⟨g3, 4, none⟩ (.int .i64 (n))).setCell ⟨g2, 0, none⟩ (.int .i64 (x1))).setCell ⟨g2, 1, none⟩ (.int .i64 (y1))).setCell ⟨g2, 2, none⟩ (.int .i64 (x2))).setCell ⟨g2, 3, none⟩ (.int .i64 (y2))).setCell ⟨g2, 4, none⟩ (.int .i64 (n)))) := ⟨_, rfl⟩; rw [← hWF] at E2 E3 P1 P2 ⊢; clear hWF; obtain ⟨u_0, u_1, u_2, u_3, u_4, u_f0, u_f1, u_f2, u_f3, u_f4⟩ := mF_cells E2; obtain ⟨v_0, v_1, v_2, v_3, v_4, v_f0, v_f1, v_f2, v_f3, v_f4⟩ := mF_cells E3; clear E2 E3; exact bodyPost_ret (v := .tuple #[.agg #[.int .i64 x1, .int .i64 y1, .int .i64 x2, .int .i64 y2, .int .i64 n], .agg #[.int .i64 x3', .int .i64 y3', .int .i64 x4', .int .i64 y4', .int .i64 n]]) (by simp [results, Try.results84, go_sem, u_0, u_1, u_2, u_3, u_4, v_0, v_1, v_2, v_3, v_4]) rfl ⟨x1, y1, x2, y2, n, x3', y3', x4', y4', n, rfl, hn, P1.more (by omega), P2⟩)
    · go_upto_region 12 with fail
      clear a_0 a_1 a_2 a_3 a_4 b_0 b_1 b_2 b_3 b_4 a_f0 a_f1 a_f2 a_f3 a_f4 b_f0 b_f1 b_f2 b_f3 b_f4
      obtain ⟨a_0, a_1, a_2, a_3, a_4, a_f0, a_f1, a_f2, a_f3, a_f4⟩ := mF_cells VA
      obtain ⟨b_0, b_1, b_2, b_3, b_4, b_f0, b_f1, b_f2, b_f3, b_f4⟩ := mF_cells VB
      obtain ⟨c_0, c_1, c_2, c_3, c_4, c_f0, c_f1, c_f2, c_f3, c_f4⟩ := mF_cells VC
      obtain ⟨d_0, d_1, d_2, d_3, d_4, d_f0, d_f1, d_f2, d_f3, d_f4⟩ := mF_cells VD
      go_region
      all_goals
        go_wp2
        first | (have h2 : w11.grownBy (((((w11.setCell ⟨g2, 0, none⟩ (.int .i64 (x1))).setCell ⟨g2, 1, none⟩ (.int .i64 (y1))).setCell ⟨g2, 2, none⟩ (.int .i64 (x2))).setCell ⟨g2, 3, none⟩ (.int .i64 (y2))).setCell ⟨g2, 4, none⟩ (.int .i64 (n))) (some g2) := (gb_trans (gb_trans (gb_trans (gb_trans (gb_set _ _ _ _) (gb_set _ _ _ _)) (gb_set _ _ _ _)) (gb_set _ _ _ _)) (gb_set _ _ _ _)); have h3 : (((((w11.setCell ⟨g2, 0, none⟩ (.int .i64 (x1))).setCell ⟨g2, 1, none⟩ (.int .i64 (y1))).setCell ⟨g2, 2, none⟩ (.int .i64 (x2))).setCell ⟨g2, 3, none⟩ (.int .i64 (y2))).setCell ⟨g2, 4, none⟩ (.int .i64 (n))).grownBy (World.drew ((((((((((w11.setCell ⟨g2, 0, none⟩ (.int .i64 (x1))).setCell ⟨g2, 1, none⟩ (.int .i64 (y1))).setCell ⟨g2, 2, none⟩ (.int .i64 (x2))).setCell ⟨g2, 3, none⟩ (.int .i64 (y2))).setCell ⟨g2, 4, none⟩ (.int .i64 (n))).setCell ⟨g3, 0, none⟩ (.int .i64 (x3'))).setCell ⟨g3, 1, none⟩ (.int .i64 (y3'))).setCell ⟨g3, 2, none⟩ (.int .i64 (x4'))).setCell ⟨g3, 3, none⟩ (.int .i64 (y4'))).setCell ⟨g3, 4, none⟩ (.int .i64 (m')))) (some g3) := gb_drewC (gb_trans (gb_trans (gb_trans (gb_trans (gb_set _ _ _ _) (gb_set _ _ _ _)) (gb_set _ _ _ _)) (gb_set _ _ _ _)) (gb_set _ _ _ _)); have P1 := HC0.out.awayB (HC0.out.awayB hc11 h2 HL2.out) h3 HL3.out; have P2 := gb_ownB (gb_ownB GV h2 HL2.out) h3 HL3.out; have E2 : (World.drew ((((((((((w11.setCell ⟨g2, 0, none⟩ (.int .i64 (x1))).setCell ⟨g2, 1, none⟩ (.int .i64 (y1))).setCell ⟨g2, 2, none⟩ (.int .i64 (x2))).setCell ⟨g2, 3, none⟩ (.int .i64 (y2))).setCell ⟨g2, 4, none⟩ (.int .i64 (n))).setCell ⟨g3, 0, none⟩ (.int .i64 (x3'))).setCell ⟨g3, 1, none⟩ (.int .i64 (y3'))).setCell ⟨g3, 2, none⟩ (.int .i64 (x4'))).setCell ⟨g3, 3, none⟩ (.int .i64 (y4'))).setCell ⟨g3, 4, none⟩ (.int .i64 (m')))).rowIs g2 30 5 (mF x1 y1 x2 y2 n) := (((((((mF_set4 (n) (mF_set3 (y2) (mF_set2 (x2) (mF_set1 (y1) (mF_set0 (x1) VC))))).setOther (a := ⟨g3, 0, none⟩) ne10 (.int .i64 (x3'))).setOther (a := ⟨g3, 1, none⟩) ne10 (.int .i64 (y3'))).setOther (a := ⟨g3, 2, none⟩) ne10 (.int .i64 (x4'))).setOther (a := ⟨g3, 3, none⟩) ne10 (.int .i64 (y4'))).setOther (a := ⟨g3, 4, none⟩) ne10 (.int .i64 (m')))).drew; have E3 : (World.drew ((((((((((w11.setCell ⟨g2, 0, none⟩ (.int .i64 (x1))).setCell ⟨g2, 1, none⟩ (.int .i64 (y1))).setCell ⟨g2, 2, none⟩ (.int .i64 (x2))).setCell ⟨g2, 3, none⟩ (.int .i64 (y2))).setCell ⟨g2, 4, none⟩ (.int .i64 (n))).setCell ⟨g3, 0, none⟩ (.int .i64 (x3'))).setCell ⟨g3, 1, none⟩ (.int .i64 (y3'))).setCell ⟨g3, 2, none⟩ (.int .i64 (x4'))).setCell ⟨g3, 3, none⟩ (.int .i64 (y4'))).setCell ⟨g3, 4, none⟩ (.int .i64 (m')))).rowIs g3 30 5 (mF x3' y3' x4' y4' m') := ((mF_set4 (m') (mF_set3 (y4') (mF_set2 (x4') (mF_set1 (y3') (mF_set0 (x3') (((((VD.setOther (a := ⟨g2, 0, none⟩) ne11 (.int .i64 (x1))).setOther (a := ⟨g2, 1, none⟩) ne11 (.int .i64 (y1))).setOther (a := ⟨g2, 2, none⟩) ne11 (.int .i64 (x2))).setOther (a := ⟨g2, 3, none⟩) ne11 (.int .i64 (y2))).setOther (a := ⟨g2, 4, none⟩) ne11 (.int .i64 (n))))))))).drew; obtain ⟨WF, hWF⟩ : ∃ z, z = (World.drew ((((((((((w11.setCell ⟨g2, 0, none⟩ (.int .i64 (x1))).setCell ⟨g2, 1, none⟩ (.int .i64 (y1))).setCell ⟨g2, 2, none⟩ (.int .i64 (x2))).setCell ⟨g2, 3, none⟩ (.int .i64 (y2))).setCell ⟨g2, 4, none⟩ (.int .i64 (n))).setCell ⟨g3, 0, none⟩ (.int .i64 (x3'))).setCell ⟨g3, 1, none⟩ (.int .i64 (y3'))).setCell ⟨g3, 2, none⟩ (.int .i64 (x4'))).setCell ⟨g3, 3, none⟩ (.int .i64 (y4'))).setCell ⟨g3, 4, none⟩ (.int .i64 (m')))) := ⟨_, rfl⟩; rw [← hWF] at E2 E3 P1 P2 ⊢; clear hWF; obtain ⟨u_0, u_1, u_2, u_3, u_4, u_f0, u_f1, u_f2, u_f3, u_f4⟩ := mF_cells E2; obtain ⟨v_0, v_1, v_2, v_3, v_4, v_f0, v_f1, v_f2, v_f3, v_f4⟩ := mF_cells E3; clear E2 E3; exact bodyPost_ret (v := .tuple #[.agg #[.int .i64 x1, .int .i64 y1, .int .i64 x2, .int .i64 y2, .int .i64 n], .agg #[.int .i64 x3', .int .i64 y3', .int .i64 x4', .int .i64 y4', .int .i64 m']]) (by simp [results, Try.results84, go_sem, u_0, u_1, u_2, u_3, u_4, v_0, v_1, v_2, v_3, v_4]) rfl ⟨x1, y1, x2, y2, n, x3', y3', x4', y4', m', rfl, hn, P1.more (by omega), P2⟩) | (have h2 : w11.grownBy (((((w11.setCell ⟨g3, 0, none⟩ (.int .i64 (x3'))).setCell ⟨g3, 1, none⟩ (.int .i64 (y3'))).setCell ⟨g3, 2, none⟩ (.int .i64 (x4'))).setCell ⟨g3, 3, none⟩ (.int .i64 (y4'))).setCell ⟨g3, 4, none⟩ (.int .i64 (m'))) (some g3) := (gb_trans (gb_trans (gb_trans (gb_trans (gb_set _ _ _ _) (gb_set _ _ _ _)) (gb_set _ _ _ _)) (gb_set _ _ _ _)) (gb_set _ _ _ _)); have h3 : (((((w11.setCell ⟨g3, 0, none⟩ (.int .i64 (x3'))).setCell ⟨g3, 1, none⟩ (.int .i64 (y3'))).setCell ⟨g3, 2, none⟩ (.int .i64 (x4'))).setCell ⟨g3, 3, none⟩ (.int .i64 (y4'))).setCell ⟨g3, 4, none⟩ (.int .i64 (m'))).grownBy (World.drew ((((((((((w11.setCell ⟨g3, 0, none⟩ (.int .i64 (x3'))).setCell ⟨g3, 1, none⟩ (.int .i64 (y3'))).setCell ⟨g3, 2, none⟩ (.int .i64 (x4'))).setCell ⟨g3, 3, none⟩ (.int .i64 (y4'))).setCell ⟨g3, 4, none⟩ (.int .i64 (m'))).setCell ⟨g2, 0, none⟩ (.int .i64 (x1))).setCell ⟨g2, 1, none⟩ (.int .i64 (y1))).setCell ⟨g2, 2, none⟩ (.int .i64 (x2))).setCell ⟨g2, 3, none⟩ (.int .i64 (y2))).setCell ⟨g2, 4, none⟩ (.int .i64 (n)))) (some g2) := gb_drewC (gb_trans (gb_trans (gb_trans (gb_trans (gb_set _ _ _ _) (gb_set _ _ _ _)) (gb_set _ _ _ _)) (gb_set _ _ _ _)) (gb_set _ _ _ _)); have P1 := HC0.out.awayB (HC0.out.awayB hc11 h2 HL3.out) h3 HL2.out; have P2 := gb_ownB (gb_ownB GV h2 HL3.out) h3 HL2.out; have E2 : (World.drew ((((((((((w11.setCell ⟨g3, 0, none⟩ (.int .i64 (x3'))).setCell ⟨g3, 1, none⟩ (.int .i64 (y3'))).setCell ⟨g3, 2, none⟩ (.int .i64 (x4'))).setCell ⟨g3, 3, none⟩ (.int .i64 (y4'))).setCell ⟨g3, 4, none⟩ (.int .i64 (m'))).setCell ⟨g2, 0, none⟩ (.int .i64 (x1))).setCell ⟨g2, 1, none⟩ (.int .i64 (y1))).setCell ⟨g2, 2, none⟩ (.int .i64 (x2))).setCell ⟨g2, 3, none⟩ (.int .i64 (y2))).setCell ⟨g2, 4, none⟩ (.int .i64 (n)))).rowIs g2 30 5 (mF x1 y1 x2 y2 n) := ((mF_set4 (n) (mF_set3 (y2) (mF_set2 (x2) (mF_set1 (y1) (mF_set0 (x1) (((((VC.setOther (a := ⟨g3, 0, none⟩) ne10 (.int .i64 (x3'))).setOther (a := ⟨g3, 1, none⟩) ne10 (.int .i64 (y3'))).setOther (a := ⟨g3, 2, none⟩) ne10 (.int .i64 (x4'))).setOther (a := ⟨g3, 3, none⟩) ne10 (.int .i64 (y4'))).setOther (a := ⟨g3, 4, none⟩) ne10 (.int .i64 (m'))))))))).drew; have E3 : (World.drew ((((((((((w11.setCell ⟨g3, 0, none⟩ (.int .i64 (x3'))).setCell ⟨g3, 1, none⟩ (.int .i64 (y3'))).setCell ⟨g3, 2, none⟩ (.int .i64 (x4'))).setCell ⟨g3, 3, none⟩ (.int .i64 (y4'))).setCell ⟨g3, 4, none⟩ (.int .i64 (m'))).setCell ⟨g2, 0, none⟩ (.int .i64 (x1))).setCell ⟨g2, 1, none⟩ (.int .i64 (y1))).setCell ⟨g2, 2, none⟩ (.int .i64 (x2))).setCell ⟨g2, 3, none⟩ (.int .i64 (y2))).setCell ⟨g2, 4, none⟩ (.int .i64 (n)))).rowIs g3 30 5 (mF x3' y3' x4' y4' m') := (((((((mF_set4 (m') (mF_set3 (y4') (mF_set2 (x4') (mF_set1 (y3') (mF_set0 (x3') VD))))).setOther (a := ⟨g2, 0, none⟩) ne11 (.int .i64 (x1))).setOther (a := ⟨g2, 1, none⟩) ne11 (.int .i64 (y1))).setOther (a := ⟨g2, 2, none⟩) ne11 (.int .i64 (x2))).setOther (a := ⟨g2, 3, none⟩) ne11 (.int .i64 (y2))).setOther (a := ⟨g2, 4, none⟩) ne11 (.int .i64 (n)))).drew; obtain ⟨WF, hWF⟩ : ∃ z, z = (World.drew ((((((((((w11.setCell ⟨g3, 0, none⟩ (.int .i64 (x3'))).setCell ⟨g3, 1, none⟩ (.int .i64 (y3'))).setCell ⟨g3, 2, none⟩ (.int .i64 (x4'))).setCell ⟨g3, 3, none⟩ (.int .i64 (y4'))).setCell ⟨g3, 4, none⟩ (.int .i64 (m'))).setCell ⟨g2, 0, none⟩ (.int .i64 (x1))).setCell ⟨g2, 1, none⟩ (.int .i64 (y1))).setCell ⟨g2, 2, none⟩ (.int .i64 (x2))).setCell ⟨g2, 3, none⟩ (.int .i64 (y2))).setCell ⟨g2, 4, none⟩ (.int .i64 (n)))) := ⟨_, rfl⟩; rw [← hWF] at E2 E3 P1 P2 ⊢; clear hWF; obtain ⟨u_0, u_1, u_2, u_3, u_4, u_f0, u_f1, u_f2, u_f3, u_f4⟩ := mF_cells E2; obtain ⟨v_0, v_1, v_2, v_3, v_4, v_f0, v_f1, v_f2, v_f3, v_f4⟩ := mF_cells E3; clear E2 E3; exact bodyPost_ret (v := .tuple #[.agg #[.int .i64 x1, .int .i64 y1, .int .i64 x2, .int .i64 y2, .int .i64 n], .agg #[.int .i64 x3', .int .i64 y3', .int .i64 x4', .int .i64 y4', .int .i64 m']]) (by simp [results, Try.results84, go_sem, u_0, u_1, u_2, u_3, u_4, v_0, v_1, v_2, v_3, v_4]) rfl ⟨x1, y1, x2, y2, n, x3', y3', x4', y4', m', rfl, hn, P1.more (by omega), P2⟩)

end Go.Proofs.Ytjojjmmdgldcbaa
