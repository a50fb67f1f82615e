/- The exact law of LineOf holds at every argument. No conditions. -/
import Derived.Test.YtppnomflmacpkaaFmLineS
import Derived.Test.YtppnomflmacpkaaFmLineI
import Derived.Test.YtppnomflmacpkaaEqSpot
import Derived.Test.YtppnomflmacpkaaMkSpot
import Derived.Test.YtppnomflmacpkaaOpenSt
import Derived.Deep.RegionHeld3
import Derived.Deep.DeepCutAuto
import Derived.Deep.DrawnRows
namespace Go.Proofs.Ytppnomflmacpkaa
open Go.ChangeShapes Go.WideShapes Go.ChangeAt Go.RowKit


attribute [local go_sem ↓] Go.wp_at_zero Go.wp_at_succ

set_option maxRecDepth 100000 in
set_option maxHeartbeats 4000000 in
theorem lineL0_law (x1 y1 x2 y2 n : Int) (w : World) :
    Calls Try.prog 5 #[.agg #[.int .i64 x1, .int .i64 y1], .agg #[.int .i64 x2, .int .i64 y2], .int .i64 n] w fun e w' => e = .returned (.bool true) ∧ Below w.heap.size w w' := by
  have hxl : (chIf (lineL x1 y1 x2 y2 n)).length ≤ 1048576 := Nat.le_trans (chIf_length _) (by omega)
  have HSP := Lib.hid (fun W => specLine_any x1 y1 x2 y2 n W)
  have HIM := Lib.hid (fun W => line_any x1 y1 x2 y2 n W)
  obtain ⟨xs, hxs⟩ : ∃ xs, xs = chIf (lineL x1 y1 x2 y2 n) := ⟨_, rfl⟩
  obtain ⟨ok, hok⟩ : ∃ ok, ok = (lineOk x1 y1 x2 y2 n && chOk (lineL x1 y1 x2 y2 n)) := ⟨_, rfl⟩
  rw [← hxs] at hxl
  simp only [← hxs, ← hok] at HSP HIM
  have hB0 : Below w.heap.size w w := Below.refl _ _
  clear hxs hok
  go_enter Try.func5, Try.ntmps5
  go_upto_region 1 with (fail)
  go_cut [7, 8] (fun sa sb wx => (OwnPairs 24 wx (w.heap.size + 1 + 1) sa xs ∧ sb = .bool ok ∧ Below w.heap.size w wx ∧ w.heap.size + 1 + 1 ≤ wx.heap.size) ∧ wx.cell? ⟨w.heap.size, 0, none⟩ = some (.int .i64 x1) ∧ wx.cell? ⟨w.heap.size, 1, none⟩ = some (.int .i64 y1) ∧ wx.cell? ⟨w.heap.size + 1, 0, none⟩ = some (.int .i64 x2) ∧ wx.cell? ⟨w.heap.size + 1, 1, none⟩ = some (.int .i64 y2))
  case first =>
    go_region_held3 (fun w' => w'.cell? ⟨w.heap.size, 0, none⟩ = some (.int .i64 x1) ∧ w'.cell? ⟨w.heap.size, 1, none⟩ = some (.int .i64 y1) ∧ w'.cell? ⟨w.heap.size + 1, 0, none⟩ = some (.int .i64 x2) ∧ w'.cell? ⟨w.heap.size + 1, 1, none⟩ = some (.int .i64 y2)) (refine ⟨?_, ?_, ?_, ?_⟩ <;> first | (go_keep; done) | (simp [*, World.cell?_alloc_past, World.cell?_setCell_far]; done) | (simp [*, World.cell?_alloc_past, World.cell?_alloc_at, World.cell?_setCell_far]; done) | (go_simp; done))
      (first | (go_at_call 11; ((with_reducible refine (toSpot_any _ _ _).mono ?_); rintro e wt ⟨rfl, hbt⟩; have hst := hbt.size; (try simp at hst); have qt00 : wt.cell? ⟨w.heap.size, 0, none⟩ = _ := hbt.cell (p := ⟨w.heap.size, 0, none⟩) (by first | omega | (simp; done) | (simp; omega)); have qt01 : wt.cell? ⟨w.heap.size, 1, none⟩ = _ := hbt.cell (p := ⟨w.heap.size, 1, none⟩) (by first | omega | (simp; done) | (simp; omega)); have qt10 : wt.cell? ⟨w.heap.size + 1, 0, none⟩ = _ := hbt.cell (p := ⟨w.heap.size + 1, 0, none⟩) (by first | omega | (simp; done) | (simp; omega)); have qt11 : wt.cell? ⟨w.heap.size + 1, 1, none⟩ = _ := hbt.cell (p := ⟨w.heap.size + 1, 1, none⟩) (by first | omega | (simp; done) | (simp; omega)))) | (go_at_call 16; ((with_reducible refine (HSP.out _).mono ?_); rintro e w3 ⟨v3, rfl, ho3, hb3⟩; have hs3 := hb3.size; (try simp at hs3); have qc00 : w3.cell? ⟨w.heap.size, 0, none⟩ = _ := hb3.cell (p := ⟨w.heap.size, 0, none⟩) (by first | omega | (simp; done) | (simp; omega)); have qc01 : w3.cell? ⟨w.heap.size, 1, none⟩ = _ := hb3.cell (p := ⟨w.heap.size, 1, none⟩) (by first | omega | (simp; done) | (simp; omega)); have qc10 : w3.cell? ⟨w.heap.size + 1, 0, none⟩ = _ := hb3.cell (p := ⟨w.heap.size + 1, 0, none⟩) (by first | omega | (simp; done) | (simp; omega)); have qc11 : w3.cell? ⟨w.heap.size + 1, 1, none⟩ = _ := hb3.cell (p := ⟨w.heap.size + 1, 1, none⟩) (by first | omega | (simp; done) | (simp; omega)))))
    all_goals
      obtain ⟨f00, f01, f10, f11⟩ : w3.cell? ⟨w.heap.size, 0, none⟩ = some (.int .i64 x1) ∧ w3.cell? ⟨w.heap.size, 1, none⟩ = some (.int .i64 y1) ∧ w3.cell? ⟨w.heap.size + 1, 0, none⟩ = some (.int .i64 x2) ∧ w3.cell? ⟨w.heap.size + 1, 1, none⟩ = some (.int .i64 y2) := by assumption
      have hsz3 : w.heap.size + 1 + 1 ≤ w3.heap.size := (by first | omega | (simp; done) | (simp; omega))
      go_wp2_with fail
      go_meet
      refine ⟨⟨own_mono ho3 (by first | omega | (simp; done) | (simp; omega)), rfl, (by repeat (first | exact Below.refl _ _ | assumption | refine Below.drew ?_ | refine below_drewN ?_ _ | refine Below.alloc ?_ (by first | omega | (simp; done) | (simp; omega)) _ | refine Below.setCell ?_ (by first | omega | (simp; done) | (simp; omega)) _ | refine Below.trans ?_ (Below.mono (by assumption) (by first | omega | (simp; done) | (simp; omega))))), hsz3⟩, f00, f01, f10, f11⟩
  case rest =>
    obtain ⟨⟨ho3, rfl, hB3, hz3⟩, c00, c01, c10, c11⟩ := hcut
    obtain ⟨w3, rfl⟩ : ∃ x, x = wc := ⟨_, rfl⟩
    obtain ⟨a0, cap0, rfl, I3, hA0⟩ := own_viewP ho3
    have HA0 := Lib.hid hA0
    have hs3 := hB3.size
    clear ho3 hA0
    go_upto_region 2 with (fail)
    go_cut [9, 10] (fun sa sb wx => (OwnPairs 24 wx w3.heap.size sa xs ∧ Below w3.heap.size w3 wx ∧ sb = .bool ok ∧ Below w.heap.size w wx ∧ w.heap.size + 1 + 1 ≤ wx.heap.size) ∧ wx.cell? ⟨w.heap.size, 0, none⟩ = some (.int .i64 x1) ∧ wx.cell? ⟨w.heap.size, 1, none⟩ = some (.int .i64 y1) ∧ wx.cell? ⟨w.heap.size + 1, 0, none⟩ = some (.int .i64 x2) ∧ wx.cell? ⟨w.heap.size + 1, 1, none⟩ = some (.int .i64 y2))
    case first =>
      go_region_held3 (fun w' => w'.cell? ⟨w.heap.size, 0, none⟩ = some (.int .i64 x1) ∧ w'.cell? ⟨w.heap.size, 1, none⟩ = some (.int .i64 y1) ∧ w'.cell? ⟨w.heap.size + 1, 0, none⟩ = some (.int .i64 x2) ∧ w'.cell? ⟨w.heap.size + 1, 1, none⟩ = some (.int .i64 y2)) (refine ⟨?_, ?_, ?_, ?_⟩ <;> first | (go_keep; done) | (simp [*, World.cell?_alloc_past, World.cell?_setCell_far]; done) | (simp [*, World.cell?_alloc_past, World.cell?_alloc_at, World.cell?_setCell_far]; done) | (go_simp; done))
        (first | (go_at_call 11; ((with_reducible refine (toSpot_any _ _ _).mono ?_); rintro e wt ⟨rfl, hbt⟩; have hst := hbt.size; (try simp at hst); have qt00 : wt.cell? ⟨w.heap.size, 0, none⟩ = _ := hbt.cell (p := ⟨w.heap.size, 0, none⟩) (by first | omega | (simp; done) | (simp; omega)); have qt01 : wt.cell? ⟨w.heap.size, 1, none⟩ = _ := hbt.cell (p := ⟨w.heap.size, 1, none⟩) (by first | omega | (simp; done) | (simp; omega)); have qt10 : wt.cell? ⟨w.heap.size + 1, 0, none⟩ = _ := hbt.cell (p := ⟨w.heap.size + 1, 0, none⟩) (by first | omega | (simp; done) | (simp; omega)); have qt11 : wt.cell? ⟨w.heap.size + 1, 1, none⟩ = _ := hbt.cell (p := ⟨w.heap.size + 1, 1, none⟩) (by first | omega | (simp; done) | (simp; omega)))) | (go_at_call 17; ((with_reducible refine (HIM.out _).mono ?_); rintro e w6 ⟨v6, rfl, ho6, hb6⟩; have hs6 := hb6.size; (try simp at hs6); have qc00 : w6.cell? ⟨w.heap.size, 0, none⟩ = _ := hb6.cell (p := ⟨w.heap.size, 0, none⟩) (by first | omega | (simp; done) | (simp; omega)); have qc01 : w6.cell? ⟨w.heap.size, 1, none⟩ = _ := hb6.cell (p := ⟨w.heap.size, 1, none⟩) (by first | omega | (simp; done) | (simp; omega)); have qc10 : w6.cell? ⟨w.heap.size + 1, 0, none⟩ = _ := hb6.cell (p := ⟨w.heap.size + 1, 0, none⟩) (by first | omega | (simp; done) | (simp; omega)); have qc11 : w6.cell? ⟨w.heap.size + 1, 1, none⟩ = _ := hb6.cell (p := ⟨w.heap.size + 1, 1, none⟩) (by first | omega | (simp; done) | (simp; omega)))))
      all_goals
        obtain ⟨f00, f01, f10, f11⟩ : w6.cell? ⟨w.heap.size, 0, none⟩ = some (.int .i64 x1) ∧ w6.cell? ⟨w.heap.size, 1, none⟩ = some (.int .i64 y1) ∧ w6.cell? ⟨w.heap.size + 1, 0, none⟩ = some (.int .i64 x2) ∧ w6.cell? ⟨w.heap.size + 1, 1, none⟩ = some (.int .i64 y2) := by assumption
        have hsz6 : w.heap.size + 1 + 1 ≤ w6.heap.size := (by first | omega | (simp; done) | (simp; omega))
        go_wp2_with fail
        go_meet
        refine ⟨⟨own_mono ho6 (by first | omega | (simp; done) | (simp; omega)), (by repeat (first | exact Below.refl _ _ | assumption | refine Below.drew ?_ | refine below_drewN ?_ _ | refine Below.alloc ?_ (by first | omega | (simp; done) | (simp; omega)) _ | refine Below.setCell ?_ (by first | omega | (simp; done) | (simp; omega)) _ | refine Below.trans ?_ (Below.mono (by assumption) (by first | omega | (simp; done) | (simp; omega))))), rfl, (by repeat (first | exact Below.refl _ _ | assumption | refine Below.drew ?_ | refine below_drewN ?_ _ | refine Below.alloc ?_ (by first | omega | (simp; done) | (simp; omega)) _ | refine Below.setCell ?_ (by first | omega | (simp; done) | (simp; omega)) _ | refine Below.trans ?_ (Below.mono (by assumption) (by first | omega | (simp; done) | (simp; omega))))), hsz6⟩, f00, f01, f10, f11⟩
    case rest =>
      obtain ⟨⟨ho6, hb36, rfl, hB6, hz6⟩, c00, c01, c10, c11⟩ := hcut
      obtain ⟨w6, rfl⟩ : ∃ x, x = wc := ⟨_, rfl⟩
      have hs6 := hB6.size
      have hs36 := hb36.size
      have I6 := I3.below hb36
      clear I3 hb36
      obtain ⟨a1, cap1, rfl, J6, hA1⟩ := own_viewP ho6
      have HA1 := Lib.hid hA1
      clear hA1
      go_wp2_with fail
      refine (eqSpotS_same a1 a0 cap1 cap0 xs hxl J6 I6).mono ?_
      rintro e w7 ⟨rfl, hb7⟩
      have hs7 := hb7.size; (try simp at hs7); have hB7 : Below w.heap.size w w7 := (by repeat (first | exact Below.refl _ _ | assumption | refine Below.drew ?_ | refine below_drewN ?_ _ | refine Below.alloc ?_ (by first | omega | (simp; done) | (simp; omega)) _ | refine Below.setCell ?_ (by first | omega | (simp; done) | (simp; omega)) _ | refine Below.trans ?_ (Below.mono (by assumption) (by first | omega | (simp; done) | (simp; omega)))))
      have I7 := I6.below hb7
      have ho7 := own_below ho6 hb7
      replace c00 : w7.cell? ⟨w.heap.size, 0, none⟩ = _ := (hb7.cell (p := ⟨w.heap.size, 0, none⟩) (by first | omega | (simp; done) | (simp; omega))).trans c00; replace c01 : w7.cell? ⟨w.heap.size, 1, none⟩ = _ := (hb7.cell (p := ⟨w.heap.size, 1, none⟩) (by first | omega | (simp; done) | (simp; omega))).trans c01; replace c10 : w7.cell? ⟨w.heap.size + 1, 0, none⟩ = _ := (hb7.cell (p := ⟨w.heap.size + 1, 0, none⟩) (by first | omega | (simp; done) | (simp; omega))).trans c10; replace c11 : w7.cell? ⟨w.heap.size + 1, 1, none⟩ = _ := (hb7.cell (p := ⟨w.heap.size + 1, 1, none⟩) (by first | omega | (simp; done) | (simp; omega))).trans c11
      clear I6 J6 ho6 hb7
      cases ok
      case false =>
        go_wp2_with fail
        refine (markSpotS_any a1 w3.heap.size cap1 xs hxl ho7).mono ?_
        rintro e w12 ⟨rfl, M12, hg12⟩
        have hup12 : ∀ k, a1.map (·.block) = some k → w.heap.size ≤ k := fun k e => by
          cases h : a1 with
          | none => rw [h] at e; cases e
          | some z => rw [h] at e; have h1 := HA1.out z h; have h2 : z.block = k := Option.some.inj e; omega
        have hs12 := hg12.size; have hB12 : Below w.heap.size w w12 := hB7.grown hg12 (by omega) hup12
        have I12 := I7.other hg12 (fun z hz e => by
          cases h : a1 with
          | none => rw [h] at e; cases e
          | some z' => rw [h] at e; have h0 := HA0.out z hz; have h1 := HA1.out z' h; have h2 : z.block = z'.block := Option.some.inj e; omega)
        have hne12 : ∀ b, b < w3.heap.size → some b ≠ a1.map (·.block) := fun b hb e => by
          cases h : a1 with
          | none => rw [h] at e; cases e
          | some z => rw [h] at e; have h1 := HA1.out z h; have h2 : b = z.block := Option.some.inj e; omega
        replace c00 : w12.cell? ⟨w.heap.size, 0, none⟩ = _ := hg12.cell c00 (hne12 _ (show w.heap.size < w3.heap.size by omega)); replace c01 : w12.cell? ⟨w.heap.size, 1, none⟩ = _ := hg12.cell c01 (hne12 _ (show w.heap.size < w3.heap.size by omega)); replace c10 : w12.cell? ⟨w.heap.size + 1, 0, none⟩ = _ := hg12.cell c10 (hne12 _ (show w.heap.size + 1 < w3.heap.size by omega)); replace c11 : w12.cell? ⟨w.heap.size + 1, 1, none⟩ = _ := hg12.cell c11 (hne12 _ (show w.heap.size + 1 < w3.heap.size by omega))
        clear I7 ho7 hup12 hg12 hne12
        go_wp2_with fail
        refine (heldSpotS_marks a1 cap1 xs.length hxl M12).mono ?_
        rintro e w' ⟨rfl, rfl⟩
        go_upto_region 13 with (fail)
        go_cut [13, 14] (fun sa sb wx => (OwnPairs 24 wx w12.heap.size sa xs ∧ Below w12.heap.size w12 wx ∧ sb = .bool false ∧ Below w.heap.size w wx ∧ w.heap.size + 1 + 1 ≤ wx.heap.size) ∧ wx.cell? ⟨w.heap.size, 0, none⟩ = some (.int .i64 x1) ∧ wx.cell? ⟨w.heap.size, 1, none⟩ = some (.int .i64 y1) ∧ wx.cell? ⟨w.heap.size + 1, 0, none⟩ = some (.int .i64 x2) ∧ wx.cell? ⟨w.heap.size + 1, 1, none⟩ = some (.int .i64 y2))
        case first =>
          go_region_held3 (fun w' => w'.cell? ⟨w.heap.size, 0, none⟩ = some (.int .i64 x1) ∧ w'.cell? ⟨w.heap.size, 1, none⟩ = some (.int .i64 y1) ∧ w'.cell? ⟨w.heap.size + 1, 0, none⟩ = some (.int .i64 x2) ∧ w'.cell? ⟨w.heap.size + 1, 1, none⟩ = some (.int .i64 y2)) (refine ⟨?_, ?_, ?_, ?_⟩ <;> first | (go_keep; done) | (simp [*, World.cell?_alloc_past, World.cell?_setCell_far]; done) | (simp [*, World.cell?_alloc_past, World.cell?_alloc_at, World.cell?_setCell_far]; done) | (go_simp; done))
            (first | (go_at_call 11; ((with_reducible refine (toSpot_any _ _ _).mono ?_); rintro e wt ⟨rfl, hbt⟩; have hst := hbt.size; (try simp at hst); have qt00 : wt.cell? ⟨w.heap.size, 0, none⟩ = _ := hbt.cell (p := ⟨w.heap.size, 0, none⟩) (by first | omega | (simp; done) | (simp; omega)); have qt01 : wt.cell? ⟨w.heap.size, 1, none⟩ = _ := hbt.cell (p := ⟨w.heap.size, 1, none⟩) (by first | omega | (simp; done) | (simp; omega)); have qt10 : wt.cell? ⟨w.heap.size + 1, 0, none⟩ = _ := hbt.cell (p := ⟨w.heap.size + 1, 0, none⟩) (by first | omega | (simp; done) | (simp; omega)); have qt11 : wt.cell? ⟨w.heap.size + 1, 1, none⟩ = _ := hbt.cell (p := ⟨w.heap.size + 1, 1, none⟩) (by first | omega | (simp; done) | (simp; omega)))) | (go_at_call 17; ((with_reducible refine (HIM.out _).mono ?_); rintro e w15 ⟨v15, rfl, ho15, hb15⟩; have hs15 := hb15.size; (try simp at hs15); have qc00 : w15.cell? ⟨w.heap.size, 0, none⟩ = _ := hb15.cell (p := ⟨w.heap.size, 0, none⟩) (by first | omega | (simp; done) | (simp; omega)); have qc01 : w15.cell? ⟨w.heap.size, 1, none⟩ = _ := hb15.cell (p := ⟨w.heap.size, 1, none⟩) (by first | omega | (simp; done) | (simp; omega)); have qc10 : w15.cell? ⟨w.heap.size + 1, 0, none⟩ = _ := hb15.cell (p := ⟨w.heap.size + 1, 0, none⟩) (by first | omega | (simp; done) | (simp; omega)); have qc11 : w15.cell? ⟨w.heap.size + 1, 1, none⟩ = _ := hb15.cell (p := ⟨w.heap.size + 1, 1, none⟩) (by first | omega | (simp; done) | (simp; omega)))))
          all_goals
            obtain ⟨f00, f01, f10, f11⟩ : w15.cell? ⟨w.heap.size, 0, none⟩ = some (.int .i64 x1) ∧ w15.cell? ⟨w.heap.size, 1, none⟩ = some (.int .i64 y1) ∧ w15.cell? ⟨w.heap.size + 1, 0, none⟩ = some (.int .i64 x2) ∧ w15.cell? ⟨w.heap.size + 1, 1, none⟩ = some (.int .i64 y2) := by assumption
            have hsz15 : w.heap.size + 1 + 1 ≤ w15.heap.size := (by first | omega | (simp; done) | (simp; omega))
            go_wp2_with fail
            go_meet
            refine ⟨⟨own_mono ho15 (by first | omega | (simp; done) | (simp; omega)), (by repeat (first | exact Below.refl _ _ | assumption | refine Below.drew ?_ | refine below_drewN ?_ _ | refine Below.alloc ?_ (by first | omega | (simp; done) | (simp; omega)) _ | refine Below.setCell ?_ (by first | omega | (simp; done) | (simp; omega)) _ | refine Below.trans ?_ (Below.mono (by assumption) (by first | omega | (simp; done) | (simp; omega))))), rfl, (by repeat (first | exact Below.refl _ _ | assumption | refine Below.drew ?_ | refine below_drewN ?_ _ | refine Below.alloc ?_ (by first | omega | (simp; done) | (simp; omega)) _ | refine Below.setCell ?_ (by first | omega | (simp; done) | (simp; omega)) _ | refine Below.trans ?_ (Below.mono (by assumption) (by first | omega | (simp; done) | (simp; omega))))), hsz15⟩, f00, f01, f10, f11⟩
        case rest =>
          obtain ⟨⟨ho15, hb15, rfl, hB15, hz15⟩, c00, c01, c10, c11⟩ := hcut
          obtain ⟨w15, rfl⟩ : ∃ x, x = wc := ⟨_, rfl⟩
          have hs15 := hB15.size
          have I15 := I12.below hb15
          have M15 := M12.below hb15
          clear I12 M12 hb15
          obtain ⟨a2, cap2, rfl, J15, _⟩ := own_viewP ho15
          clear ho15
          go_wp2_with fail
          refine (eqSpotS_same a2 a0 cap2 cap0 xs hxl J15 I15).mono ?_
          rintro e w16 ⟨rfl, hb16⟩
          have hs16 := hb16.size; (try simp at hs16); have hB16 : Below w.heap.size w w16 := (by repeat (first | exact Below.refl _ _ | assumption | refine Below.drew ?_ | refine below_drewN ?_ _ | refine Below.alloc ?_ (by first | omega | (simp; done) | (simp; omega)) _ | refine Below.setCell ?_ (by first | omega | (simp; done) | (simp; omega)) _ | refine Below.trans ?_ (Below.mono (by assumption) (by first | omega | (simp; done) | (simp; omega)))))
          have M16 := M15.below hb16
          clear I15 M15 J15
          go_wp2_with fail
          refine (heldSpotS_marks a1 cap1 xs.length hxl M16).mono ?_
          rintro e w' ⟨rfl, rfl⟩
          go_wp2_with fail
          go_ret
          exact ⟨rfl, hB16⟩
      case true =>
        go_wp2_with fail
        refine (markSpotS_any a1 w3.heap.size cap1 xs hxl ho7).mono ?_
        rintro e w12 ⟨rfl, M12, hg12⟩
        have hup12 : ∀ k, a1.map (·.block) = some k → w.heap.size ≤ k := fun k e => by
          cases h : a1 with
          | none => rw [h] at e; cases e
          | some z => rw [h] at e; have h1 := HA1.out z h; have h2 : z.block = k := Option.some.inj e; omega
        have hs12 := hg12.size; have hB12 : Below w.heap.size w w12 := hB7.grown hg12 (by omega) hup12
        have I12 := I7.other hg12 (fun z hz e => by
          cases h : a1 with
          | none => rw [h] at e; cases e
          | some z' => rw [h] at e; have h0 := HA0.out z hz; have h1 := HA1.out z' h; have h2 : z.block = z'.block := Option.some.inj e; omega)
        have hne12 : ∀ b, b < w3.heap.size → some b ≠ a1.map (·.block) := fun b hb e => by
          cases h : a1 with
          | none => rw [h] at e; cases e
          | some z => rw [h] at e; have h1 := HA1.out z h; have h2 : b = z.block := Option.some.inj e; omega
        replace c00 : w12.cell? ⟨w.heap.size, 0, none⟩ = _ := hg12.cell c00 (hne12 _ (show w.heap.size < w3.heap.size by omega)); replace c01 : w12.cell? ⟨w.heap.size, 1, none⟩ = _ := hg12.cell c01 (hne12 _ (show w.heap.size < w3.heap.size by omega)); replace c10 : w12.cell? ⟨w.heap.size + 1, 0, none⟩ = _ := hg12.cell c10 (hne12 _ (show w.heap.size + 1 < w3.heap.size by omega)); replace c11 : w12.cell? ⟨w.heap.size + 1, 1, none⟩ = _ := hg12.cell c11 (hne12 _ (show w.heap.size + 1 < w3.heap.size by omega))
        clear I7 ho7 hup12 hg12 hne12
        go_wp2_with fail
        refine (heldSpotS_marks a1 cap1 xs.length hxl M12).mono ?_
        rintro e w' ⟨rfl, rfl⟩
        go_upto_region 13 with (fail)
        go_cut [13, 14] (fun sa sb wx => (OwnPairs 24 wx w12.heap.size sa xs ∧ Below w12.heap.size w12 wx ∧ sb = .bool true ∧ Below w.heap.size w wx ∧ w.heap.size + 1 + 1 ≤ wx.heap.size) ∧ wx.cell? ⟨w.heap.size, 0, none⟩ = some (.int .i64 x1) ∧ wx.cell? ⟨w.heap.size, 1, none⟩ = some (.int .i64 y1) ∧ wx.cell? ⟨w.heap.size + 1, 0, none⟩ = some (.int .i64 x2) ∧ wx.cell? ⟨w.heap.size + 1, 1, none⟩ = some (.int .i64 y2))
        case first =>
          go_region_held3 (fun w' => w'.cell? ⟨w.heap.size, 0, none⟩ = some (.int .i64 x1) ∧ w'.cell? ⟨w.heap.size, 1, none⟩ = some (.int .i64 y1) ∧ w'.cell? ⟨w.heap.size + 1, 0, none⟩ = some (.int .i64 x2) ∧ w'.cell? ⟨w.heap.size + 1, 1, none⟩ = some (.int .i64 y2)) (refine ⟨?_, ?_, ?_, ?_⟩ <;> first | (go_keep; done) | (simp [*, World.cell?_alloc_past, World.cell?_setCell_far]; done) | (simp [*, World.cell?_alloc_past, World.cell?_alloc_at, World.cell?_setCell_far]; done) | (go_simp; done))
            (first | (go_at_call 11; ((with_reducible refine (toSpot_any _ _ _).mono ?_); rintro e wt ⟨rfl, hbt⟩; have hst := hbt.size; (try simp at hst); have qt00 : wt.cell? ⟨w.heap.size, 0, none⟩ = _ := hbt.cell (p := ⟨w.heap.size, 0, none⟩) (by first | omega | (simp; done) | (simp; omega)); have qt01 : wt.cell? ⟨w.heap.size, 1, none⟩ = _ := hbt.cell (p := ⟨w.heap.size, 1, none⟩) (by first | omega | (simp; done) | (simp; omega)); have qt10 : wt.cell? ⟨w.heap.size + 1, 0, none⟩ = _ := hbt.cell (p := ⟨w.heap.size + 1, 0, none⟩) (by first | omega | (simp; done) | (simp; omega)); have qt11 : wt.cell? ⟨w.heap.size + 1, 1, none⟩ = _ := hbt.cell (p := ⟨w.heap.size + 1, 1, none⟩) (by first | omega | (simp; done) | (simp; omega)))) | (go_at_call 17; ((with_reducible refine (HIM.out _).mono ?_); rintro e w15 ⟨v15, rfl, ho15, hb15⟩; have hs15 := hb15.size; (try simp at hs15); have qc00 : w15.cell? ⟨w.heap.size, 0, none⟩ = _ := hb15.cell (p := ⟨w.heap.size, 0, none⟩) (by first | omega | (simp; done) | (simp; omega)); have qc01 : w15.cell? ⟨w.heap.size, 1, none⟩ = _ := hb15.cell (p := ⟨w.heap.size, 1, none⟩) (by first | omega | (simp; done) | (simp; omega)); have qc10 : w15.cell? ⟨w.heap.size + 1, 0, none⟩ = _ := hb15.cell (p := ⟨w.heap.size + 1, 0, none⟩) (by first | omega | (simp; done) | (simp; omega)); have qc11 : w15.cell? ⟨w.heap.size + 1, 1, none⟩ = _ := hb15.cell (p := ⟨w.heap.size + 1, 1, none⟩) (by first | omega | (simp; done) | (simp; omega)))))
          all_goals
            obtain ⟨f00, f01, f10, f11⟩ : w15.cell? ⟨w.heap.size, 0, none⟩ = some (.int .i64 x1) ∧ w15.cell? ⟨w.heap.size, 1, none⟩ = some (.int .i64 y1) ∧ w15.cell? ⟨w.heap.size + 1, 0, none⟩ = some (.int .i64 x2) ∧ w15.cell? ⟨w.heap.size + 1, 1, none⟩ = some (.int .i64 y2) := by assumption
            have hsz15 : w.heap.size + 1 + 1 ≤ w15.heap.size := (by first | omega | (simp; done) | (simp; omega))
            go_wp2_with fail
            go_meet
            refine ⟨⟨own_mono ho15 (by first | omega | (simp; done) | (simp; omega)), (by repeat (first | exact Below.refl _ _ | assumption | refine Below.drew ?_ | refine below_drewN ?_ _ | refine Below.alloc ?_ (by first | omega | (simp; done) | (simp; omega)) _ | refine Below.setCell ?_ (by first | omega | (simp; done) | (simp; omega)) _ | refine Below.trans ?_ (Below.mono (by assumption) (by first | omega | (simp; done) | (simp; omega))))), rfl, (by repeat (first | exact Below.refl _ _ | assumption | refine Below.drew ?_ | refine below_drewN ?_ _ | refine Below.alloc ?_ (by first | omega | (simp; done) | (simp; omega)) _ | refine Below.setCell ?_ (by first | omega | (simp; done) | (simp; omega)) _ | refine Below.trans ?_ (Below.mono (by assumption) (by first | omega | (simp; done) | (simp; omega))))), hsz15⟩, f00, f01, f10, f11⟩
        case rest =>
          obtain ⟨⟨ho15, hb15, rfl, hB15, hz15⟩, c00, c01, c10, c11⟩ := hcut
          obtain ⟨w15, rfl⟩ : ∃ x, x = wc := ⟨_, rfl⟩
          have hs15 := hB15.size
          have I15 := I12.below hb15
          have M15 := M12.below hb15
          clear I12 M12 hb15
          obtain ⟨a2, cap2, rfl, J15, _⟩ := own_viewP ho15
          clear ho15
          go_wp2_with fail
          refine (eqSpotS_same a2 a0 cap2 cap0 xs hxl J15 I15).mono ?_
          rintro e w16 ⟨rfl, hb16⟩
          have hs16 := hb16.size; (try simp at hs16); have hB16 : Below w.heap.size w w16 := (by repeat (first | exact Below.refl _ _ | assumption | refine Below.drew ?_ | refine below_drewN ?_ _ | refine Below.alloc ?_ (by first | omega | (simp; done) | (simp; omega)) _ | refine Below.setCell ?_ (by first | omega | (simp; done) | (simp; omega)) _ | refine Below.trans ?_ (Below.mono (by assumption) (by first | omega | (simp; done) | (simp; omega)))))
          have M16 := M15.below hb16
          clear I15 M15 J15
          go_wp2_with fail
          refine (heldSpotS_marks a1 cap1 xs.length hxl M16).mono ?_
          rintro e w' ⟨rfl, rfl⟩
          go_wp2_with fail
          go_ret
          exact ⟨rfl, hB16⟩

set_option maxRecDepth 100000 in
theorem lineL0_holds : Rows.FnExactLineOfSaid :=
  OpenClaim.holds_of_wide 5 Try.f5 rfl rfl rfl rfl rfl rfl rfl ⟨rfl, rfl, rfl, rfl, rfl⟩ rfl rfl rfl rfl rfl (by kernel_rfl) Try.func5 (by kernel_rfl)
    (of_decide_eq_true (by kernel_rfl)) (by unfold Func.isWrapper; rw [if_neg (of_decide_eq_false (by kernel_rfl))]; exact ⟨rfl, rfl⟩)
    (fun os started H enc _ => law_lifted (C := Try.checked) (s := Rows.fnExactLineOfSpec) Try.own started (by kernel_rfl) Try.func5
      (ChangeSpec.witness6 (enc := enc) (C := Try.checked) false ⟨#[], #[.agg #[.int .i64 0, .int .i64 0], .agg #[.int .i64 0, .int .i64 0], .int .i64 0], []⟩ 8 (by kernel_rfl) (by kernel_rfl) (by kernel_rfl) (by kernel_rfl))
      Try.laidOut (by kernel_rfl) rfl Try.underlying4 rfl
      (fun W base args ds p hval hA hlt => by
        have hA' : DataW.TrodAll enc Try.prog W 0 (fun _ => true) true Try.f5.params.toList args.toList ds p := hA
        have hval' : ∀ (j : Nat) t v, Try.f5.params[j]? = some t → args[j]? = some v → Value.okWide Try.prog W .any base t v := hval
        rw [Try.params5] at hA' hval'
        obtain ⟨v0, v1, v2, d0, d1, d2, p0, p1, p2, rfl, rfl, rfl, h0, h1, h2⟩ := trodAll_three hA'
        obtain ⟨x1, y1, rfl, _, _⟩ := open_spot (hval' 0 _ v0 rfl rfl) h0
        obtain ⟨x2, y2, rfl, _, _⟩ := open_spot (hval' 1 _ v1 rfl rfl) h1
        obtain ⟨n, rfl, rfl, rfl, wfn⟩ := open_int Try.underlying3 (hval' 2 _ v2 rfl rfl) h2
        exact ⟨rfl, lineL0_law x1 y1 x2 y2 n W⟩))

end Go.Proofs.Ytppnomflmacpkaa
