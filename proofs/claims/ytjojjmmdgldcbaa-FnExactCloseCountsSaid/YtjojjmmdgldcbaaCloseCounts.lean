/- The exact law of CloseCounts. No conditions. -/
import Derived.Test.YtjojjmmdgldcbaaApCnt
import Derived.Test.YtjojjmmdgldcbaaOpenMv
import Derived.Deep.RegionHeld3
import Derived.Deep.DeepCutAuto
import Derived.Deep.DrawnRows
namespace Go.Proofs.Ytjojjmmdgldcbaa
open Go.ChangeShapes Go.WideShapes Go.ChangeAt Go.RowKit


attribute [local go_sem ↓] Go.wp_at_zero Go.wp_at_succ

theorem specCloseU (x1 y1 x1' y1' n1 x2 y2 x2' y2' n2 L : Int) (w : World) :
    Calls Try.prog 23 #[.agg #[.int .i64 x1, .int .i64 y1, .int .i64 x1', .int .i64 y1', .int .i64 n1], .agg #[.int .i64 x2, .int .i64 y2, .int .i64 x2', .int .i64 y2', .int .i64 n2], .int .i64 L] w fun e w' => ∃ v, e = .returned (.tuple #[v, .bool (ccOk x1 y1 x1' y1' n1 x2 y2 x2' y2' n2 L)]) ∧ OwnInts w' w.heap.size v (closeL x1 y1 x1' y1' n1 x2 y2 x2' y2' n2 L) ∧ Below w.heap.size w w' := specClose_any x1 y1 x1' y1' n1 x2 y2 x2' y2' n2 L w

theorem closeU (x1 y1 x1' y1' n1 x2 y2 x2' y2' n2 L : Int) (w : World) :
    Calls Try.prog 24 #[.agg #[.int .i64 x1, .int .i64 y1, .int .i64 x1', .int .i64 y1', .int .i64 n1], .agg #[.int .i64 x2, .int .i64 y2, .int .i64 x2', .int .i64 y2', .int .i64 n2], .int .i64 L] w fun e w' => ∃ v, e = .returned (.tuple #[v, .bool (ccOk x1 y1 x1' y1' n1 x2 y2 x2' y2' n2 L)]) ∧ OwnInts w' w.heap.size v (closeL x1 y1 x1' y1' n1 x2 y2 x2' y2' n2 L) ∧ Below w.heap.size w w' := close_any x1 y1 x1' y1' n1 x2 y2 x2' y2' n2 L w

set_option maxRecDepth 100000 in
set_option maxHeartbeats 8000000 in
theorem closeL0_law (x1 y1 x1' y1' n1 x2 y2 x2' y2' n2 L : Int) (w : World) :
    Calls Try.prog 7 #[.agg #[.int .i64 x1, .int .i64 y1, .int .i64 x1', .int .i64 y1', .int .i64 n1], .agg #[.int .i64 x2, .int .i64 y2, .int .i64 x2', .int .i64 y2', .int .i64 n2], .int .i64 L] w fun e w' => e = .returned (.bool true) ∧ Below w.heap.size w w' := by
  have hxl : (closeL x1 y1 x1' y1' n1 x2 y2 x2' y2' n2 L).length ≤ 1048576 := Nat.le_trans (closeL_length x1 y1 x1' y1' n1 x2 y2 x2' y2' n2 L) (by omega)
  have HSP := Lib.hid (fun W => specCloseU x1 y1 x1' y1' n1 x2 y2 x2' y2' n2 L W)
  have HIM := Lib.hid (fun W => closeU x1 y1 x1' y1' n1 x2 y2 x2' y2' n2 L W)
  obtain ⟨xs, hxs⟩ : ∃ xs, xs = closeL x1 y1 x1' y1' n1 x2 y2 x2' y2' n2 L := ⟨_, rfl⟩
  obtain ⟨ok, hok⟩ : ∃ ok, ok = ccOk x1 y1 x1' y1' n1 x2 y2 x2' y2' n2 L := ⟨_, rfl⟩
  rw [← hxs] at hxl
  simp only [← hxs, ← hok] at HSP HIM
  have hB0 : Below w.heap.size w w := Below.refl _ _
  clear hxs hok
  go_enter Try.func7, Try.ntmps7
  go_upto_region 1 with fail
  go_cut [7, 8] (fun sa sb wx => (OwnInts wx (w.heap.size + 1 + 1) sa xs ∧ sb = .bool ok ∧ Below w.heap.size w wx ∧ w.heap.size + 1 + 1 ≤ wx.heap.size) ∧ wx.cell? ⟨w.heap.size, 0, none⟩ = some (.int .i64 x1) ∧ wx.cell? ⟨w.heap.size, 1, none⟩ = some (.int .i64 y1) ∧ wx.cell? ⟨w.heap.size, 2, none⟩ = some (.int .i64 x1') ∧ wx.cell? ⟨w.heap.size, 3, none⟩ = some (.int .i64 y1') ∧ wx.cell? ⟨w.heap.size, 4, none⟩ = some (.int .i64 n1) ∧ wx.cell? ⟨w.heap.size + 1, 0, none⟩ = some (.int .i64 x2) ∧ wx.cell? ⟨w.heap.size + 1, 1, none⟩ = some (.int .i64 y2) ∧ wx.cell? ⟨w.heap.size + 1, 2, none⟩ = some (.int .i64 x2') ∧ wx.cell? ⟨w.heap.size + 1, 3, none⟩ = some (.int .i64 y2') ∧ wx.cell? ⟨w.heap.size + 1, 4, none⟩ = some (.int .i64 n2))
  case first =>
    go_region_held3 (fun w' => w'.cell? ⟨w.heap.size, 0, none⟩ = some (.int .i64 x1) ∧ w'.cell? ⟨w.heap.size, 1, none⟩ = some (.int .i64 y1) ∧ w'.cell? ⟨w.heap.size, 2, none⟩ = some (.int .i64 x1') ∧ w'.cell? ⟨w.heap.size, 3, none⟩ = some (.int .i64 y1') ∧ w'.cell? ⟨w.heap.size, 4, none⟩ = some (.int .i64 n1) ∧ w'.cell? ⟨w.heap.size + 1, 0, none⟩ = some (.int .i64 x2) ∧ w'.cell? ⟨w.heap.size + 1, 1, none⟩ = some (.int .i64 y2) ∧ w'.cell? ⟨w.heap.size + 1, 2, none⟩ = some (.int .i64 x2') ∧ w'.cell? ⟨w.heap.size + 1, 3, none⟩ = some (.int .i64 y2') ∧ w'.cell? ⟨w.heap.size + 1, 4, none⟩ = some (.int .i64 n2)) ((first | (rename_i hH K0 hK0; obtain ⟨e0, e1, e2, e3, e4, e5, e6, e7, e8, e9⟩ := hH; first | (with_reducible exact ⟨e0, e1, e2, e3, e4, e5, e6, e7, e8, e9⟩) | (with_reducible exact ⟨(hb1.cell (p := ⟨w.heap.size, 0, none⟩) (by first | omega | (simp; done) | (simp; omega))).trans e0, (hb1.cell (p := ⟨w.heap.size, 1, none⟩) (by first | omega | (simp; done) | (simp; omega))).trans e1, (hb1.cell (p := ⟨w.heap.size, 2, none⟩) (by first | omega | (simp; done) | (simp; omega))).trans e2, (hb1.cell (p := ⟨w.heap.size, 3, none⟩) (by first | omega | (simp; done) | (simp; omega))).trans e3, (hb1.cell (p := ⟨w.heap.size, 4, none⟩) (by first | omega | (simp; done) | (simp; omega))).trans e4, (hb1.cell (p := ⟨w.heap.size + 1, 0, none⟩) (by first | omega | (simp; done) | (simp; omega))).trans e5, (hb1.cell (p := ⟨w.heap.size + 1, 1, none⟩) (by first | omega | (simp; done) | (simp; omega))).trans e6, (hb1.cell (p := ⟨w.heap.size + 1, 2, none⟩) (by first | omega | (simp; done) | (simp; omega))).trans e7, (hb1.cell (p := ⟨w.heap.size + 1, 3, none⟩) (by first | omega | (simp; done) | (simp; omega))).trans e8, (hb1.cell (p := ⟨w.heap.size + 1, 4, none⟩) (by first | omega | (simp; done) | (simp; omega))).trans e9⟩)) | (refine ⟨?_, ?_, ?_, ?_, ?_, ?_, ?_, ?_, ?_, ?_⟩ <;> first | (go_keep; done) | (simp [*, World.cell?_alloc_past, World.cell?_setCell_far]; done) | (simp [*, World.cell?_alloc_past, World.cell?_alloc_at, World.cell?_setCell_far]; done) | (go_simp; done))))
      (first | (go_at_call 15; ((with_reducible refine (toMove_any _ _ _ _ _ _).mono ?_); rintro e w1 ⟨rfl, hb1⟩; have hs1 := hb1.size; (try simp at hs1))) | (go_at_call 23; ((with_reducible refine (HSP.out _).mono ?_); rintro e w3 ⟨v3, rfl, ho3, hb3⟩; have hb1 := hb3; have hs3 := hb3.size; (try simp at hs3))))
    all_goals
      obtain ⟨f0, f1, f2, f3, f4, f5, f6, f7, f8, f9⟩ : w3.cell? ⟨w.heap.size, 0, none⟩ = some (.int .i64 x1) ∧ w3.cell? ⟨w.heap.size, 1, none⟩ = some (.int .i64 y1) ∧ w3.cell? ⟨w.heap.size, 2, none⟩ = some (.int .i64 x1') ∧ w3.cell? ⟨w.heap.size, 3, none⟩ = some (.int .i64 y1') ∧ w3.cell? ⟨w.heap.size, 4, none⟩ = some (.int .i64 n1) ∧ w3.cell? ⟨w.heap.size + 1, 0, none⟩ = some (.int .i64 x2) ∧ w3.cell? ⟨w.heap.size + 1, 1, none⟩ = some (.int .i64 y2) ∧ w3.cell? ⟨w.heap.size + 1, 2, none⟩ = some (.int .i64 x2') ∧ w3.cell? ⟨w.heap.size + 1, 3, none⟩ = some (.int .i64 y2') ∧ w3.cell? ⟨w.heap.size + 1, 4, none⟩ = some (.int .i64 n2) := by assumption
      have hsz3 : w.heap.size + 1 + 1 ≤ w3.heap.size := (by first | omega | (simp; done) | (simp; omega))
      go_wp2_with fail
      go_meet
      refine ⟨⟨own_mono ho3 (by first | omega | (simp; done) | (simp; omega)), rfl, (by repeat (first | exact Below.refl _ _ | assumption | refine Below.drew ?_ | refine below_drewN ?_ _ | refine Below.alloc ?_ (by first | omega | (simp; done) | (simp; omega)) _ | refine Below.setCell ?_ (by first | omega | (simp; done) | (simp; omega)) _ | refine Below.trans ?_ (Below.mono (by assumption) (by first | omega | (simp; done) | (simp; omega))))), hsz3⟩, f0, f1, f2, f3, f4, f5, f6, f7, f8, f9⟩
  case rest =>
    obtain ⟨⟨ho3, rfl, hB3, hz3⟩, c0, c1, c2, c3, c4, c5, c6, c7, c8, c9⟩ := hcut
    obtain ⟨w3, rfl⟩ : ∃ x, x = wc := ⟨_, rfl⟩
    obtain ⟨a0, cap0, rfl, I3, hA0⟩ := own_viewI ho3
    have HA0 := Lib.hid hA0
    have hs3 := hB3.size
    clear ho3 hA0
    go_upto_region 2 with fail
    go_cut [9, 10] (fun sa sb wx => (OwnInts wx (w3.heap.size) sa xs ∧ Below w3.heap.size w3 wx ∧ sb = .bool ok ∧ Below w.heap.size w wx ∧ w.heap.size + 1 + 1 ≤ wx.heap.size) ∧ wx.cell? ⟨w.heap.size, 0, none⟩ = some (.int .i64 x1) ∧ wx.cell? ⟨w.heap.size, 1, none⟩ = some (.int .i64 y1) ∧ wx.cell? ⟨w.heap.size, 2, none⟩ = some (.int .i64 x1') ∧ wx.cell? ⟨w.heap.size, 3, none⟩ = some (.int .i64 y1') ∧ wx.cell? ⟨w.heap.size, 4, none⟩ = some (.int .i64 n1) ∧ wx.cell? ⟨w.heap.size + 1, 0, none⟩ = some (.int .i64 x2) ∧ wx.cell? ⟨w.heap.size + 1, 1, none⟩ = some (.int .i64 y2) ∧ wx.cell? ⟨w.heap.size + 1, 2, none⟩ = some (.int .i64 x2') ∧ wx.cell? ⟨w.heap.size + 1, 3, none⟩ = some (.int .i64 y2') ∧ wx.cell? ⟨w.heap.size + 1, 4, none⟩ = some (.int .i64 n2))
    case first =>
      go_region_held3 (fun w' => w'.cell? ⟨w.heap.size, 0, none⟩ = some (.int .i64 x1) ∧ w'.cell? ⟨w.heap.size, 1, none⟩ = some (.int .i64 y1) ∧ w'.cell? ⟨w.heap.size, 2, none⟩ = some (.int .i64 x1') ∧ w'.cell? ⟨w.heap.size, 3, none⟩ = some (.int .i64 y1') ∧ w'.cell? ⟨w.heap.size, 4, none⟩ = some (.int .i64 n1) ∧ w'.cell? ⟨w.heap.size + 1, 0, none⟩ = some (.int .i64 x2) ∧ w'.cell? ⟨w.heap.size + 1, 1, none⟩ = some (.int .i64 y2) ∧ w'.cell? ⟨w.heap.size + 1, 2, none⟩ = some (.int .i64 x2') ∧ w'.cell? ⟨w.heap.size + 1, 3, none⟩ = some (.int .i64 y2') ∧ w'.cell? ⟨w.heap.size + 1, 4, none⟩ = some (.int .i64 n2)) ((first | (rename_i hH K0 hK0; obtain ⟨e0, e1, e2, e3, e4, e5, e6, e7, e8, e9⟩ := hH; first | (with_reducible exact ⟨e0, e1, e2, e3, e4, e5, e6, e7, e8, e9⟩) | (with_reducible exact ⟨(hb1.cell (p := ⟨w.heap.size, 0, none⟩) (by first | omega | (simp; done) | (simp; omega))).trans e0, (hb1.cell (p := ⟨w.heap.size, 1, none⟩) (by first | omega | (simp; done) | (simp; omega))).trans e1, (hb1.cell (p := ⟨w.heap.size, 2, none⟩) (by first | omega | (simp; done) | (simp; omega))).trans e2, (hb1.cell (p := ⟨w.heap.size, 3, none⟩) (by first | omega | (simp; done) | (simp; omega))).trans e3, (hb1.cell (p := ⟨w.heap.size, 4, none⟩) (by first | omega | (simp; done) | (simp; omega))).trans e4, (hb1.cell (p := ⟨w.heap.size + 1, 0, none⟩) (by first | omega | (simp; done) | (simp; omega))).trans e5, (hb1.cell (p := ⟨w.heap.size + 1, 1, none⟩) (by first | omega | (simp; done) | (simp; omega))).trans e6, (hb1.cell (p := ⟨w.heap.size + 1, 2, none⟩) (by first | omega | (simp; done) | (simp; omega))).trans e7, (hb1.cell (p := ⟨w.heap.size + 1, 3, none⟩) (by first | omega | (simp; done) | (simp; omega))).trans e8, (hb1.cell (p := ⟨w.heap.size + 1, 4, none⟩) (by first | omega | (simp; done) | (simp; omega))).trans e9⟩)) | (refine ⟨?_, ?_, ?_, ?_, ?_, ?_, ?_, ?_, ?_, ?_⟩ <;> first | (go_keep; done) | (simp [*, World.cell?_alloc_past, World.cell?_setCell_far]; done) | (simp [*, World.cell?_alloc_past, World.cell?_alloc_at, World.cell?_setCell_far]; done) | (go_simp; done))))
        (first | (go_at_call 15; ((with_reducible refine (toMove_any _ _ _ _ _ _).mono ?_); rintro e w1 ⟨rfl, hb1⟩; have hs1 := hb1.size; (try simp at hs1))) | (go_at_call 24; ((with_reducible refine (HIM.out _).mono ?_); rintro e w6 ⟨v6, rfl, ho6, hb6⟩; have hb1 := hb6; have hs6 := hb6.size; (try simp at hs6))))
      all_goals
        obtain ⟨f0, f1, f2, f3, f4, f5, f6, f7, f8, f9⟩ : w6.cell? ⟨w.heap.size, 0, none⟩ = some (.int .i64 x1) ∧ w6.cell? ⟨w.heap.size, 1, none⟩ = some (.int .i64 y1) ∧ w6.cell? ⟨w.heap.size, 2, none⟩ = some (.int .i64 x1') ∧ w6.cell? ⟨w.heap.size, 3, none⟩ = some (.int .i64 y1') ∧ w6.cell? ⟨w.heap.size, 4, none⟩ = some (.int .i64 n1) ∧ w6.cell? ⟨w.heap.size + 1, 0, none⟩ = some (.int .i64 x2) ∧ w6.cell? ⟨w.heap.size + 1, 1, none⟩ = some (.int .i64 y2) ∧ w6.cell? ⟨w.heap.size + 1, 2, none⟩ = some (.int .i64 x2') ∧ w6.cell? ⟨w.heap.size + 1, 3, none⟩ = some (.int .i64 y2') ∧ w6.cell? ⟨w.heap.size + 1, 4, none⟩ = some (.int .i64 n2) := by assumption
        have hsz6 : w.heap.size + 1 + 1 ≤ w6.heap.size := (by first | omega | (simp; done) | (simp; omega))
        go_wp2_with fail
        go_meet
        refine ⟨⟨own_mono ho6 (by first | omega | (simp; done) | (simp; omega)), (by repeat (first | exact Below.refl _ _ | assumption | refine Below.drew ?_ | refine below_drewN ?_ _ | refine Below.alloc ?_ (by first | omega | (simp; done) | (simp; omega)) _ | refine Below.setCell ?_ (by first | omega | (simp; done) | (simp; omega)) _ | refine Below.trans ?_ (Below.mono (by assumption) (by first | omega | (simp; done) | (simp; omega))))), rfl, (by repeat (first | exact Below.refl _ _ | assumption | refine Below.drew ?_ | refine below_drewN ?_ _ | refine Below.alloc ?_ (by first | omega | (simp; done) | (simp; omega)) _ | refine Below.setCell ?_ (by first | omega | (simp; done) | (simp; omega)) _ | refine Below.trans ?_ (Below.mono (by assumption) (by first | omega | (simp; done) | (simp; omega))))), hsz6⟩, f0, f1, f2, f3, f4, f5, f6, f7, f8, f9⟩
    case rest =>
      obtain ⟨⟨ho6, hb36, rfl, hB6, hz6⟩, c0, c1, c2, c3, c4, c5, c6, c7, c8, c9⟩ := hcut
      obtain ⟨w6, rfl⟩ : ∃ x, x = wc := ⟨_, rfl⟩
      have hs6 := hB6.size
      have hs36 := hb36.size
      have I6 := I3.below hb36
      clear I3 hb36
      obtain ⟨a1, cap1, rfl, J6, hA1⟩ := own_viewI ho6
      have HA1 := Lib.hid hA1
      clear hA1
      go_wp2_with fail
      refine (eqIntS_same a1 a0 cap1 cap0 xs hxl J6 I6).mono ?_
      rintro e w7 ⟨rfl, hb7⟩
      have hs7 := hb7.size; (try simp at hs7); have hB7 : Below w.heap.size w w7 := (by repeat (first | exact Below.refl _ _ | assumption | refine Below.drew ?_ | refine below_drewN ?_ _ | refine Below.alloc ?_ (by first | omega | (simp; done) | (simp; omega)) _ | refine Below.setCell ?_ (by first | omega | (simp; done) | (simp; omega)) _ | refine Below.trans ?_ (Below.mono (by assumption) (by first | omega | (simp; done) | (simp; omega)))))
      have I7 := I6.below hb7
      have ho7 := own_below ho6 hb7
      replace c0 : w7.cell? ⟨w.heap.size, 0, none⟩ = some (.int .i64 x1) := (hb7.cell (p := ⟨w.heap.size, 0, none⟩) (by first | omega | (simp; done) | (simp; omega))).trans c0; replace c1 : w7.cell? ⟨w.heap.size, 1, none⟩ = some (.int .i64 y1) := (hb7.cell (p := ⟨w.heap.size, 1, none⟩) (by first | omega | (simp; done) | (simp; omega))).trans c1; replace c2 : w7.cell? ⟨w.heap.size, 2, none⟩ = some (.int .i64 x1') := (hb7.cell (p := ⟨w.heap.size, 2, none⟩) (by first | omega | (simp; done) | (simp; omega))).trans c2; replace c3 : w7.cell? ⟨w.heap.size, 3, none⟩ = some (.int .i64 y1') := (hb7.cell (p := ⟨w.heap.size, 3, none⟩) (by first | omega | (simp; done) | (simp; omega))).trans c3; replace c4 : w7.cell? ⟨w.heap.size, 4, none⟩ = some (.int .i64 n1) := (hb7.cell (p := ⟨w.heap.size, 4, none⟩) (by first | omega | (simp; done) | (simp; omega))).trans c4; replace c5 : w7.cell? ⟨w.heap.size + 1, 0, none⟩ = some (.int .i64 x2) := (hb7.cell (p := ⟨w.heap.size + 1, 0, none⟩) (by first | omega | (simp; done) | (simp; omega))).trans c5; replace c6 : w7.cell? ⟨w.heap.size + 1, 1, none⟩ = some (.int .i64 y2) := (hb7.cell (p := ⟨w.heap.size + 1, 1, none⟩) (by first | omega | (simp; done) | (simp; omega))).trans c6; replace c7 : w7.cell? ⟨w.heap.size + 1, 2, none⟩ = some (.int .i64 x2') := (hb7.cell (p := ⟨w.heap.size + 1, 2, none⟩) (by first | omega | (simp; done) | (simp; omega))).trans c7; replace c8 : w7.cell? ⟨w.heap.size + 1, 3, none⟩ = some (.int .i64 y2') := (hb7.cell (p := ⟨w.heap.size + 1, 3, none⟩) (by first | omega | (simp; done) | (simp; omega))).trans c8; replace c9 : w7.cell? ⟨w.heap.size + 1, 4, none⟩ = some (.int .i64 n2) := (hb7.cell (p := ⟨w.heap.size + 1, 4, none⟩) (by first | omega | (simp; done) | (simp; omega))).trans c9
      clear I6 J6 ho6 hb7
      cases ok
      case false =>
        go_wp2_with fail
        refine (markIntS_any a1 w3.heap.size cap1 xs hxl ho7).mono ?_
        rintro e w12 ⟨rfl, M12, hg12⟩
        have hup12 : ∀ k, a1.map (·.block) = some k → w.heap.size ≤ k := fun k e => by
          cases h : a1 with
          | none => rw [h] at e; cases e
          | some z => rw [h] at e; have h1 := HA1.out z h; have h2 : z.block = k := Option.some.inj e; omega
        have hs12 := hg12.size; have hB12 : Below w.heap.size w w12 := hB7.grown hg12 (by omega) hup12
        have I12 := ints_other I7 hg12 (fun z hz e => by
          cases h : a1 with
          | none => rw [h] at e; cases e
          | some z' => rw [h] at e; have h0 := HA0.out z hz; have h1 := HA1.out z' h; have h2 : z.block = z'.block := Option.some.inj e; omega)
        have hne12 : ∀ b, b < w3.heap.size → some b ≠ a1.map (·.block) := fun b hb e => by
          cases h : a1 with
          | none => rw [h] at e; cases e
          | some z => rw [h] at e; have h1 := HA1.out z h; have h2 : b = z.block := Option.some.inj e; omega
        replace c0 : w12.cell? ⟨w.heap.size, 0, none⟩ = some (.int .i64 x1) := hg12.cell c0 (hne12 _ (show w.heap.size < w3.heap.size by omega)); replace c1 : w12.cell? ⟨w.heap.size, 1, none⟩ = some (.int .i64 y1) := hg12.cell c1 (hne12 _ (show w.heap.size < w3.heap.size by omega)); replace c2 : w12.cell? ⟨w.heap.size, 2, none⟩ = some (.int .i64 x1') := hg12.cell c2 (hne12 _ (show w.heap.size < w3.heap.size by omega)); replace c3 : w12.cell? ⟨w.heap.size, 3, none⟩ = some (.int .i64 y1') := hg12.cell c3 (hne12 _ (show w.heap.size < w3.heap.size by omega)); replace c4 : w12.cell? ⟨w.heap.size, 4, none⟩ = some (.int .i64 n1) := hg12.cell c4 (hne12 _ (show w.heap.size < w3.heap.size by omega)); replace c5 : w12.cell? ⟨w.heap.size + 1, 0, none⟩ = some (.int .i64 x2) := hg12.cell c5 (hne12 _ (show w.heap.size + 1 < w3.heap.size by omega)); replace c6 : w12.cell? ⟨w.heap.size + 1, 1, none⟩ = some (.int .i64 y2) := hg12.cell c6 (hne12 _ (show w.heap.size + 1 < w3.heap.size by omega)); replace c7 : w12.cell? ⟨w.heap.size + 1, 2, none⟩ = some (.int .i64 x2') := hg12.cell c7 (hne12 _ (show w.heap.size + 1 < w3.heap.size by omega)); replace c8 : w12.cell? ⟨w.heap.size + 1, 3, none⟩ = some (.int .i64 y2') := hg12.cell c8 (hne12 _ (show w.heap.size + 1 < w3.heap.size by omega)); replace c9 : w12.cell? ⟨w.heap.size + 1, 4, none⟩ = some (.int .i64 n2) := hg12.cell c9 (hne12 _ (show w.heap.size + 1 < w3.heap.size by omega))
        clear I7 ho7 hup12 hg12 hne12
        go_wp2_with fail
        refine (heldIntS_ones a1 cap1 xs.length hxl M12).mono ?_
        rintro e w' ⟨rfl, rfl⟩
        go_upto_region 13 with fail
        go_cut [13, 14] (fun sa sb wx => (OwnInts wx (w12.heap.size) sa xs ∧ Below w12.heap.size w12 wx ∧ sb = .bool false ∧ Below w.heap.size w wx ∧ w.heap.size + 1 + 1 ≤ wx.heap.size) ∧ wx.cell? ⟨w.heap.size, 0, none⟩ = some (.int .i64 x1) ∧ wx.cell? ⟨w.heap.size, 1, none⟩ = some (.int .i64 y1) ∧ wx.cell? ⟨w.heap.size, 2, none⟩ = some (.int .i64 x1') ∧ wx.cell? ⟨w.heap.size, 3, none⟩ = some (.int .i64 y1') ∧ wx.cell? ⟨w.heap.size, 4, none⟩ = some (.int .i64 n1) ∧ wx.cell? ⟨w.heap.size + 1, 0, none⟩ = some (.int .i64 x2) ∧ wx.cell? ⟨w.heap.size + 1, 1, none⟩ = some (.int .i64 y2) ∧ wx.cell? ⟨w.heap.size + 1, 2, none⟩ = some (.int .i64 x2') ∧ wx.cell? ⟨w.heap.size + 1, 3, none⟩ = some (.int .i64 y2') ∧ wx.cell? ⟨w.heap.size + 1, 4, none⟩ = some (.int .i64 n2))
        case first =>
          go_region_held3 (fun w' => w'.cell? ⟨w.heap.size, 0, none⟩ = some (.int .i64 x1) ∧ w'.cell? ⟨w.heap.size, 1, none⟩ = some (.int .i64 y1) ∧ w'.cell? ⟨w.heap.size, 2, none⟩ = some (.int .i64 x1') ∧ w'.cell? ⟨w.heap.size, 3, none⟩ = some (.int .i64 y1') ∧ w'.cell? ⟨w.heap.size, 4, none⟩ = some (.int .i64 n1) ∧ w'.cell? ⟨w.heap.size + 1, 0, none⟩ = some (.int .i64 x2) ∧ w'.cell? ⟨w.heap.size + 1, 1, none⟩ = some (.int .i64 y2) ∧ w'.cell? ⟨w.heap.size + 1, 2, none⟩ = some (.int .i64 x2') ∧ w'.cell? ⟨w.heap.size + 1, 3, none⟩ = some (.int .i64 y2') ∧ w'.cell? ⟨w.heap.size + 1, 4, none⟩ = some (.int .i64 n2)) ((first | (rename_i hH K0 hK0; obtain ⟨e0, e1, e2, e3, e4, e5, e6, e7, e8, e9⟩ := hH; first | (with_reducible exact ⟨e0, e1, e2, e3, e4, e5, e6, e7, e8, e9⟩) | (with_reducible exact ⟨(hb1.cell (p := ⟨w.heap.size, 0, none⟩) (by first | omega | (simp; done) | (simp; omega))).trans e0, (hb1.cell (p := ⟨w.heap.size, 1, none⟩) (by first | omega | (simp; done) | (simp; omega))).trans e1, (hb1.cell (p := ⟨w.heap.size, 2, none⟩) (by first | omega | (simp; done) | (simp; omega))).trans e2, (hb1.cell (p := ⟨w.heap.size, 3, none⟩) (by first | omega | (simp; done) | (simp; omega))).trans e3, (hb1.cell (p := ⟨w.heap.size, 4, none⟩) (by first | omega | (simp; done) | (simp; omega))).trans e4, (hb1.cell (p := ⟨w.heap.size + 1, 0, none⟩) (by first | omega | (simp; done) | (simp; omega))).trans e5, (hb1.cell (p := ⟨w.heap.size + 1, 1, none⟩) (by first | omega | (simp; done) | (simp; omega))).trans e6, (hb1.cell (p := ⟨w.heap.size + 1, 2, none⟩) (by first | omega | (simp; done) | (simp; omega))).trans e7, (hb1.cell (p := ⟨w.heap.size + 1, 3, none⟩) (by first | omega | (simp; done) | (simp; omega))).trans e8, (hb1.cell (p := ⟨w.heap.size + 1, 4, none⟩) (by first | omega | (simp; done) | (simp; omega))).trans e9⟩)) | (refine ⟨?_, ?_, ?_, ?_, ?_, ?_, ?_, ?_, ?_, ?_⟩ <;> first | (go_keep; done) | (simp [*, World.cell?_alloc_past, World.cell?_setCell_far]; done) | (simp [*, World.cell?_alloc_past, World.cell?_alloc_at, World.cell?_setCell_far]; done) | (go_simp; done))))
            (first | (go_at_call 15; ((with_reducible refine (toMove_any _ _ _ _ _ _).mono ?_); rintro e w1 ⟨rfl, hb1⟩; have hs1 := hb1.size; (try simp at hs1))) | (go_at_call 24; ((with_reducible refine (HIM.out _).mono ?_); rintro e w15 ⟨v15, rfl, ho15, hb15⟩; have hb1 := hb15; have hs15 := hb15.size; (try simp at hs15))))
          all_goals
            obtain ⟨f0, f1, f2, f3, f4, f5, f6, f7, f8, f9⟩ : w15.cell? ⟨w.heap.size, 0, none⟩ = some (.int .i64 x1) ∧ w15.cell? ⟨w.heap.size, 1, none⟩ = some (.int .i64 y1) ∧ w15.cell? ⟨w.heap.size, 2, none⟩ = some (.int .i64 x1') ∧ w15.cell? ⟨w.heap.size, 3, none⟩ = some (.int .i64 y1') ∧ w15.cell? ⟨w.heap.size, 4, none⟩ = some (.int .i64 n1) ∧ w15.cell? ⟨w.heap.size + 1, 0, none⟩ = some (.int .i64 x2) ∧ w15.cell? ⟨w.heap.size + 1, 1, none⟩ = some (.int .i64 y2) ∧ w15.cell? ⟨w.heap.size + 1, 2, none⟩ = some (.int .i64 x2') ∧ w15.cell? ⟨w.heap.size + 1, 3, none⟩ = some (.int .i64 y2') ∧ w15.cell? ⟨w.heap.size + 1, 4, none⟩ = some (.int .i64 n2) := by assumption
            have hsz15 : w.heap.size + 1 + 1 ≤ w15.heap.size := (by first | omega | (simp; done) | (simp; omega))
            go_wp2_with fail
            go_meet
            refine ⟨⟨own_mono ho15 (by first | omega | (simp; done) | (simp; omega)), (by repeat (first | exact Below.refl _ _ | assumption | refine Below.drew ?_ | refine below_drewN ?_ _ | refine Below.alloc ?_ (by first | omega | (simp; done) | (simp; omega)) _ | refine Below.setCell ?_ (by first | omega | (simp; done) | (simp; omega)) _ | refine Below.trans ?_ (Below.mono (by assumption) (by first | omega | (simp; done) | (simp; omega))))), rfl, (by repeat (first | exact Below.refl _ _ | assumption | refine Below.drew ?_ | refine below_drewN ?_ _ | refine Below.alloc ?_ (by first | omega | (simp; done) | (simp; omega)) _ | refine Below.setCell ?_ (by first | omega | (simp; done) | (simp; omega)) _ | refine Below.trans ?_ (Below.mono (by assumption) (by first | omega | (simp; done) | (simp; omega))))), hsz15⟩, f0, f1, f2, f3, f4, f5, f6, f7, f8, f9⟩
        case rest =>
          obtain ⟨⟨ho15, hb15, rfl, hB15, hz15⟩, c0, c1, c2, c3, c4, c5, c6, c7, c8, c9⟩ := hcut
          obtain ⟨w15, rfl⟩ : ∃ x, x = wc := ⟨_, rfl⟩
          have hs15 := hB15.size
          have I15 := I12.below hb15
          have M15 := M12.below hb15
          clear I12 M12 hb15
          obtain ⟨a2, cap2, rfl, J15, _⟩ := own_viewI ho15
          clear ho15
          go_wp2_with fail
          refine (eqIntS_same a2 a0 cap2 cap0 xs hxl J15 I15).mono ?_
          rintro e w16 ⟨rfl, hb16⟩
          have hs16 := hb16.size; (try simp at hs16); have hB16 : Below w.heap.size w w16 := (by repeat (first | exact Below.refl _ _ | assumption | refine Below.drew ?_ | refine below_drewN ?_ _ | refine Below.alloc ?_ (by first | omega | (simp; done) | (simp; omega)) _ | refine Below.setCell ?_ (by first | omega | (simp; done) | (simp; omega)) _ | refine Below.trans ?_ (Below.mono (by assumption) (by first | omega | (simp; done) | (simp; omega)))))
          have M16 := M15.below hb16
          clear I15 M15 J15
          go_wp2_with fail
          refine (heldIntS_ones a1 cap1 xs.length hxl M16).mono ?_
          rintro e w' ⟨rfl, rfl⟩
          go_wp2_with fail
          go_ret
          exact ⟨rfl, hB16⟩
      case true =>
        go_wp2_with fail
        refine (markIntS_any a1 w3.heap.size cap1 xs hxl ho7).mono ?_
        rintro e w12 ⟨rfl, M12, hg12⟩
        have hup12 : ∀ k, a1.map (·.block) = some k → w.heap.size ≤ k := fun k e => by
          cases h : a1 with
          | none => rw [h] at e; cases e
          | some z => rw [h] at e; have h1 := HA1.out z h; have h2 : z.block = k := Option.some.inj e; omega
        have hs12 := hg12.size; have hB12 : Below w.heap.size w w12 := hB7.grown hg12 (by omega) hup12
        have I12 := ints_other I7 hg12 (fun z hz e => by
          cases h : a1 with
          | none => rw [h] at e; cases e
          | some z' => rw [h] at e; have h0 := HA0.out z hz; have h1 := HA1.out z' h; have h2 : z.block = z'.block := Option.some.inj e; omega)
        have hne12 : ∀ b, b < w3.heap.size → some b ≠ a1.map (·.block) := fun b hb e => by
          cases h : a1 with
          | none => rw [h] at e; cases e
          | some z => rw [h] at e; have h1 := HA1.out z h; have h2 : b = z.block := Option.some.inj e; omega
        replace c0 : w12.cell? ⟨w.heap.size, 0, none⟩ = some (.int .i64 x1) := hg12.cell c0 (hne12 _ (show w.heap.size < w3.heap.size by omega)); replace c1 : w12.cell? ⟨w.heap.size, 1, none⟩ = some (.int .i64 y1) := hg12.cell c1 (hne12 _ (show w.heap.size < w3.heap.size by omega)); replace c2 : w12.cell? ⟨w.heap.size, 2, none⟩ = some (.int .i64 x1') := hg12.cell c2 (hne12 _ (show w.heap.size < w3.heap.size by omega)); replace c3 : w12.cell? ⟨w.heap.size, 3, none⟩ = some (.int .i64 y1') := hg12.cell c3 (hne12 _ (show w.heap.size < w3.heap.size by omega)); replace c4 : w12.cell? ⟨w.heap.size, 4, none⟩ = some (.int .i64 n1) := hg12.cell c4 (hne12 _ (show w.heap.size < w3.heap.size by omega)); replace c5 : w12.cell? ⟨w.heap.size + 1, 0, none⟩ = some (.int .i64 x2) := hg12.cell c5 (hne12 _ (show w.heap.size + 1 < w3.heap.size by omega)); replace c6 : w12.cell? ⟨w.heap.size + 1, 1, none⟩ = some (.int .i64 y2) := hg12.cell c6 (hne12 _ (show w.heap.size + 1 < w3.heap.size by omega)); replace c7 : w12.cell? ⟨w.heap.size + 1, 2, none⟩ = some (.int .i64 x2') := hg12.cell c7 (hne12 _ (show w.heap.size + 1 < w3.heap.size by omega)); replace c8 : w12.cell? ⟨w.heap.size + 1, 3, none⟩ = some (.int .i64 y2') := hg12.cell c8 (hne12 _ (show w.heap.size + 1 < w3.heap.size by omega)); replace c9 : w12.cell? ⟨w.heap.size + 1, 4, none⟩ = some (.int .i64 n2) := hg12.cell c9 (hne12 _ (show w.heap.size + 1 < w3.heap.size by omega))
        clear I7 ho7 hup12 hg12 hne12
        go_wp2_with fail
        refine (heldIntS_ones a1 cap1 xs.length hxl M12).mono ?_
        rintro e w' ⟨rfl, rfl⟩
        go_upto_region 13 with fail
        go_cut [13, 14] (fun sa sb wx => (OwnInts wx (w12.heap.size) sa xs ∧ Below w12.heap.size w12 wx ∧ sb = .bool true ∧ Below w.heap.size w wx ∧ w.heap.size + 1 + 1 ≤ wx.heap.size) ∧ wx.cell? ⟨w.heap.size, 0, none⟩ = some (.int .i64 x1) ∧ wx.cell? ⟨w.heap.size, 1, none⟩ = some (.int .i64 y1) ∧ wx.cell? ⟨w.heap.size, 2, none⟩ = some (.int .i64 x1') ∧ wx.cell? ⟨w.heap.size, 3, none⟩ = some (.int .i64 y1') ∧ wx.cell? ⟨w.heap.size, 4, none⟩ = some (.int .i64 n1) ∧ wx.cell? ⟨w.heap.size + 1, 0, none⟩ = some (.int .i64 x2) ∧ wx.cell? ⟨w.heap.size + 1, 1, none⟩ = some (.int .i64 y2) ∧ wx.cell? ⟨w.heap.size + 1, 2, none⟩ = some (.int .i64 x2') ∧ wx.cell? ⟨w.heap.size + 1, 3, none⟩ = some (.int .i64 y2') ∧ wx.cell? ⟨w.heap.size + 1, 4, none⟩ = some (.int .i64 n2))
        case first =>
          go_region_held3 (fun w' => w'.cell? ⟨w.heap.size, 0, none⟩ = some (.int .i64 x1) ∧ w'.cell? ⟨w.heap.size, 1, none⟩ = some (.int .i64 y1) ∧ w'.cell? ⟨w.heap.size, 2, none⟩ = some (.int .i64 x1') ∧ w'.cell? ⟨w.heap.size, 3, none⟩ = some (.int .i64 y1') ∧ w'.cell? ⟨w.heap.size, 4, none⟩ = some (.int .i64 n1) ∧ w'.cell? ⟨w.heap.size + 1, 0, none⟩ = some (.int .i64 x2) ∧ w'.cell? ⟨w.heap.size + 1, 1, none⟩ = some (.int .i64 y2) ∧ w'.cell? ⟨w.heap.size + 1, 2, none⟩ = some (.int .i64 x2') ∧ w'.cell? ⟨w.heap.size + 1, 3, none⟩ = some (.int .i64 y2') ∧ w'.cell? ⟨w.heap.size + 1, 4, none⟩ = some (.int .i64 n2)) ((first | (rename_i hH K0 hK0; obtain ⟨e0, e1, e2, e3, e4, e5, e6, e7, e8, e9⟩ := hH; first | (with_reducible exact ⟨e0, e1, e2, e3, e4, e5, e6, e7, e8, e9⟩) | (with_reducible exact ⟨(hb1.cell (p := ⟨w.heap.size, 0, none⟩) (by first | omega | (simp; done) | (simp; omega))).trans e0, (hb1.cell (p := ⟨w.heap.size, 1, none⟩) (by first | omega | (simp; done) | (simp; omega))).trans e1, (hb1.cell (p := ⟨w.heap.size, 2, none⟩) (by first | omega | (simp; done) | (simp; omega))).trans e2, (hb1.cell (p := ⟨w.heap.size, 3, none⟩) (by first | omega | (simp; done) | (simp; omega))).trans e3, (hb1.cell (p := ⟨w.heap.size, 4, none⟩) (by first | omega | (simp; done) | (simp; omega))).trans e4, (hb1.cell (p := ⟨w.heap.size + 1, 0, none⟩) (by first | omega | (simp; done) | (simp; omega))).trans e5, (hb1.cell (p := ⟨w.heap.size + 1, 1, none⟩) (by first | omega | (simp; done) | (simp; omega))).trans e6, (hb1.cell (p := ⟨w.heap.size + 1, 2, none⟩) (by first | omega | (simp; done) | (simp; omega))).trans e7, (hb1.cell (p := ⟨w.heap.size + 1, 3, none⟩) (by first | omega | (simp; done) | (simp; omega))).trans e8, (hb1.cell (p := ⟨w.heap.size + 1, 4, none⟩) (by first | omega | (simp; done) | (simp; omega))).trans e9⟩)) | (refine ⟨?_, ?_, ?_, ?_, ?_, ?_, ?_, ?_, ?_, ?_⟩ <;> first | (go_keep; done) | (simp [*, World.cell?_alloc_past, World.cell?_setCell_far]; done) | (simp [*, World.cell?_alloc_past, World.cell?_alloc_at, World.cell?_setCell_far]; done) | (go_simp; done))))
            (first | (go_at_call 15; ((with_reducible refine (toMove_any _ _ _ _ _ _).mono ?_); rintro e w1 ⟨rfl, hb1⟩; have hs1 := hb1.size; (try simp at hs1))) | (go_at_call 24; ((with_reducible refine (HIM.out _).mono ?_); rintro e w15 ⟨v15, rfl, ho15, hb15⟩; have hb1 := hb15; have hs15 := hb15.size; (try simp at hs15))))
          all_goals
            obtain ⟨f0, f1, f2, f3, f4, f5, f6, f7, f8, f9⟩ : w15.cell? ⟨w.heap.size, 0, none⟩ = some (.int .i64 x1) ∧ w15.cell? ⟨w.heap.size, 1, none⟩ = some (.int .i64 y1) ∧ w15.cell? ⟨w.heap.size, 2, none⟩ = some (.int .i64 x1') ∧ w15.cell? ⟨w.heap.size, 3, none⟩ = some (.int .i64 y1') ∧ w15.cell? ⟨w.heap.size, 4, none⟩ = some (.int .i64 n1) ∧ w15.cell? ⟨w.heap.size + 1, 0, none⟩ = some (.int .i64 x2) ∧ w15.cell? ⟨w.heap.size + 1, 1, none⟩ = some (.int .i64 y2) ∧ w15.cell? ⟨w.heap.size + 1, 2, none⟩ = some (.int .i64 x2') ∧ w15.cell? ⟨w.heap.size + 1, 3, none⟩ = some (.int .i64 y2') ∧ w15.cell? ⟨w.heap.size + 1, 4, none⟩ = some (.int .i64 n2) := by assumption
            have hsz15 : w.heap.size + 1 + 1 ≤ w15.heap.size := (by first | omega | (simp; done) | (simp; omega))
            go_wp2_with fail
            go_meet
            refine ⟨⟨own_mono ho15 (by first | omega | (simp; done) | (simp; omega)), (by repeat (first | exact Below.refl _ _ | assumption | refine Below.drew ?_ | refine below_drewN ?_ _ | refine Below.alloc ?_ (by first | omega | (simp; done) | (simp; omega)) _ | refine Below.setCell ?_ (by first | omega | (simp; done) | (simp; omega)) _ | refine Below.trans ?_ (Below.mono (by assumption) (by first | omega | (simp; done) | (simp; omega))))), rfl, (by repeat (first | exact Below.refl _ _ | assumption | refine Below.drew ?_ | refine below_drewN ?_ _ | refine Below.alloc ?_ (by first | omega | (simp; done) | (simp; omega)) _ | refine Below.setCell ?_ (by first | omega | (simp; done) | (simp; omega)) _ | refine Below.trans ?_ (Below.mono (by assumption) (by first | omega | (simp; done) | (simp; omega))))), hsz15⟩, f0, f1, f2, f3, f4, f5, f6, f7, f8, f9⟩
        case rest =>
          obtain ⟨⟨ho15, hb15, rfl, hB15, hz15⟩, c0, c1, c2, c3, c4, c5, c6, c7, c8, c9⟩ := hcut
          obtain ⟨w15, rfl⟩ : ∃ x, x = wc := ⟨_, rfl⟩
          have hs15 := hB15.size
          have I15 := I12.below hb15
          have M15 := M12.below hb15
          clear I12 M12 hb15
          obtain ⟨a2, cap2, rfl, J15, _⟩ := own_viewI ho15
          clear ho15
          go_wp2_with fail
          refine (eqIntS_same a2 a0 cap2 cap0 xs hxl J15 I15).mono ?_
          rintro e w16 ⟨rfl, hb16⟩
          have hs16 := hb16.size; (try simp at hs16); have hB16 : Below w.heap.size w w16 := (by repeat (first | exact Below.refl _ _ | assumption | refine Below.drew ?_ | refine below_drewN ?_ _ | refine Below.alloc ?_ (by first | omega | (simp; done) | (simp; omega)) _ | refine Below.setCell ?_ (by first | omega | (simp; done) | (simp; omega)) _ | refine Below.trans ?_ (Below.mono (by assumption) (by first | omega | (simp; done) | (simp; omega)))))
          have M16 := M15.below hb16
          clear I15 M15 J15
          go_wp2_with fail
          refine (heldIntS_ones a1 cap1 xs.length hxl M16).mono ?_
          rintro e w' ⟨rfl, rfl⟩
          go_wp2_with fail
          go_ret
          exact ⟨rfl, hB16⟩

set_option maxRecDepth 100000 in
theorem closeL0_holds : Rows.FnExactCloseCountsSaid :=
  OpenClaim.holds_of_wide 7 Try.f7 rfl rfl rfl rfl rfl rfl rfl ⟨rfl, rfl, rfl, rfl, rfl⟩ rfl rfl rfl rfl rfl (by kernel_rfl) Try.func7 (by kernel_rfl)
    (of_decide_eq_true (by kernel_rfl)) (by unfold Func.isWrapper; rw [if_neg (of_decide_eq_false (by kernel_rfl))]; exact ⟨rfl, rfl⟩)
    (fun os started H enc _ => law_lifted (C := Try.checked) (s := Rows.fnExactCloseCountsSpec) Try.own started (by kernel_rfl) Try.func7
      (ChangeSpec.witness6 (enc := enc) (C := Try.checked) false ⟨#[], #[.agg #[.int .i64 0, .int .i64 0, .int .i64 0, .int .i64 0, .int .i64 0], .agg #[.int .i64 0, .int .i64 0, .int .i64 0, .int .i64 0, .int .i64 0], .int .i64 0], []⟩ 8 (by kernel_rfl) (by kernel_rfl) (by kernel_rfl) (by kernel_rfl))
      Try.laidOut (by kernel_rfl) rfl Try.underlying4 rfl
      (fun W base args ds p hval hA hlt => by
        have hA' : DataW.TrodAll enc Try.prog W 0 (fun _ => true) true Try.f7.params.toList args.toList ds p := hA
        have hval' : ∀ (j : Nat) t v, Try.f7.params[j]? = some t → args[j]? = some v → Value.okWide Try.prog W .any base t v := hval
        rw [Try.params7] at hA' hval'
        obtain ⟨v0, v1, v2, d0, d1, d2, p0, p1, p2, rfl, rfl, rfl, h0, h1, h2⟩ := trodAll_three hA'
        obtain ⟨x1, y1, x1', y1', n1, rfl⟩ := open_move (hval' 0 _ v0 rfl rfl) h0
        obtain ⟨x2, y2, x2', y2', n2, rfl⟩ := open_move (hval' 1 _ v1 rfl rfl) h1
        obtain ⟨L, rfl, rfl, rfl, wfL⟩ := open_int Try.underlying3 (hval' 2 _ v2 rfl rfl) h2
        exact ⟨rfl, closeL0_law x1 y1 x1' y1' n1 x2 y2 x2' y2' n2 L W⟩))

end Go.Proofs.Ytjojjmmdgldcbaa
