/- The exact law of QuarterTurn holds at every argument. No conditions. -/
import Derived.Test.YtjdpbjpeohdoiaaArTwo
import Derived.Test.YtjdpbjpeohdoiaaEqSpot
import Derived.Test.YtjdpbjpeohdoiaaToSpot
import Derived.Test.YtjdpbjpeohdoiaaOpenSt
import Derived.Deep.RegionHeld3
import Derived.Deep.DeepCutAuto
import Derived.Deep.DrawnRows
namespace Go.Proofs.Ytjdpbjpeohdoiaa
open Go.ChangeShapes Go.WideShapes Go.ChangeAt Go.RowKit


attribute [local go_sem ↓] Go.wp_at_zero Go.wp_at_succ

set_option maxRecDepth 100000 in
set_option maxHeartbeats 4000000 in
theorem quartL0_law (x1 y1 x2 y2 : Int) (w : World) :
    Calls Try.prog 9 #[.agg #[.int .i64 x1, .int .i64 y1], .agg #[.int .i64 x2, .int .i64 y2]] w fun e w' => e = .returned (.bool true) ∧ Below w.heap.size w w' := by
  obtain ⟨q1, q2, q3, q4, q5, q6, q7⟩ := nadd
  have HSP := Lib.hid (fun W => specQuarter_any x1 y1 x2 y2 W)
  have HIM := Lib.hid (fun W => quarter_any x1 y1 x2 y2 W)
  obtain ⟨X, hX⟩ : ∃ z, z = guardI (qtK x1 y1 x2 y2) (x1 - (y2 - y1)) := ⟨_, rfl⟩
  simp only [← hX] at HSP HIM
  clear hX
  obtain ⟨Y, hY⟩ : ∃ z, z = guardI (qtK x1 y1 x2 y2) (y1 + (x2 - x1)) := ⟨_, rfl⟩
  simp only [← hY] at HSP HIM
  clear hY
  obtain ⟨ok, hok⟩ : ∃ z, z = qtK x1 y1 x2 y2 := ⟨_, rfl⟩
  simp only [← hok] at HSP HIM
  clear hok
  go_enter Try.func9, Try.ntmps9
  go_upto_region 1 with fail
  go_cut [5, 6] (fun s0 s1 wx => ∃ g0 : Nat, (s0 = .pointer (some ⟨g0, 0, none⟩) ∧ w.heap.size + 1 < g0 ∧ g0 < wx.heap.size ∧ wx.cell? ⟨g0, 0, none⟩ = some (.int .i64 (X)) ∧ wx.cell? ⟨g0, 1, none⟩ = some (.int .i64 (Y)) ∧ s1 = .bool ok ∧ w.heap.size + 1 < wx.heap.size ∧ Below (w.heap.size + 1 + 1) ((w.alloc (.cells #[.int .i64 x1, .int .i64 y1] 26)).alloc (.cells #[.int .i64 x2, .int .i64 y2] 26)) wx))
  case first =>
    go_region_held3 (fun w' => w'.cell? ⟨w.heap.size, 0, none⟩ = some (.int .i64 x1) ∧ w'.cell? ⟨w.heap.size, 1, none⟩ = some (.int .i64 y1) ∧ w'.cell? ⟨w.heap.size + 1, 0, none⟩ = some (.int .i64 x2) ∧ w'.cell? ⟨w.heap.size + 1, 1, none⟩ = some (.int .i64 y2)) (refine ⟨?_, ?_, ?_, ?_⟩ <;> first | (go_keep; done) | (simp [*, World.cell?_alloc_past, World.cell?_setCell_far]; done) | (simp [*, World.cell?_alloc_past, World.cell?_alloc_at, World.cell?_setCell_far]; done) | (go_simp; done))
      (first | (go_at_call 16; (refine (toSpot_any _ _ _).mono ?_; rintro e w1 ⟨rfl, hb1⟩; have hs1 := hb1.size; (try simp at hs1); (first | have hk4 := call_facts hl3 hb1 (by simp) | skip); (first | have hk3 := call_facts hl2 hb1 (by simp) | skip); (first | have hk2 := call_facts hl1 hb1 (by simp) | skip); have hk1 := call_facts (fun b h => h) hb1 (Nat.le_refl _); (first | have hl4 := hk4.1 | skip); (first | have hl3 := hk3.1 | skip); (first | have hl2 := hk2.1 | skip); have hl1 := hk1.1)) | (go_at_call 30; (refine (HSP.out _).mono ?_; rintro e w1 ⟨rfl, hb1⟩; have hs1 := hb1.size; (try simp at hs1); (first | have hk4 := call_facts hl3 hb1 (by simp) | skip); (first | have hk3 := call_facts hl2 hb1 (by simp) | skip); (first | have hk2 := call_facts hl1 hb1 (by simp) | skip); have hk1 := call_facts (fun b h => h) hb1 (Nat.le_refl _); (first | have hl4 := hk4.1 | skip); (first | have hl3 := hk3.1 | skip); (first | have hl2 := hk2.1 | skip); have hl1 := hk1.1)))
    all_goals (go_wp2_with fail; go_meet; refine ⟨_, ⟨rfl, ?_, ?_, ?_, ?_, rfl, ?_, (by repeat (first | exact Below.refl _ _ | assumption | refine Below.drew ?_ | refine below_drewN ?_ _ | refine Below.alloc ?_ (by first | omega | (simp; done) | (simp; omega)) _ | refine Below.setCell ?_ (by first | omega | (simp; done) | (simp; omega)) _ | refine Below.trans ?_ (Below.mono (by assumption) (by first | omega | (simp; done) | (simp; omega)))))⟩⟩; all_goals first | (simp [*, World.cell?_alloc_past]; done) | (go_simp; done) | (omega; done) | (simp; done) | (simp; omega))
  case rest =>
    obtain ⟨g0, ⟨rfl, ug0a, ug0b, ug0c, ug0d, rfl, g3, g6⟩⟩ := hcut
    have z0 : w.heap.size < wc.heap.size := (by omega); have c00 : wc.cell? ⟨w.heap.size, 0, none⟩ = some (.int .i64 x1) := (g6.cell (p := ⟨w.heap.size, 0, none⟩) (by first | omega | (simp; done) | (simp; omega))).trans (by go_simp); have c01 : wc.cell? ⟨w.heap.size, 1, none⟩ = some (.int .i64 y1) := (g6.cell (p := ⟨w.heap.size, 1, none⟩) (by first | omega | (simp; done) | (simp; omega))).trans (by go_simp); have z1 : w.heap.size + 1 < wc.heap.size := (by omega); have c10 : wc.cell? ⟨w.heap.size + 1, 0, none⟩ = some (.int .i64 x2) := (g6.cell (p := ⟨w.heap.size + 1, 0, none⟩) (by first | omega | (simp; done) | (simp; omega))).trans (by go_simp); have c11 : wc.cell? ⟨w.heap.size + 1, 1, none⟩ = some (.int .i64 y2) := (g6.cell (p := ⟨w.heap.size + 1, 1, none⟩) (by first | omega | (simp; done) | (simp; omega))).trans (by go_simp); have ya0g0 : ¬ w.heap.size = g0 := (by omega); have yb0g0 : ¬ g0 = w.heap.size := (by omega); have ya1g0 : ¬ w.heap.size + 1 = g0 := (by omega); have yb1g0 : ¬ g0 = w.heap.size + 1 := (by omega)
    have g7 : Below w.heap.size w wc := (by first | exact Below.trans (by repeat (first | exact Below.refl _ _ | assumption | refine Below.drew ?_ | refine below_drewN ?_ _ | refine Below.alloc ?_ (by first | omega | (simp; done) | (simp; omega)) _ | refine Below.setCell ?_ (by first | omega | (simp; done) | (simp; omega)) _ | refine Below.trans ?_ (Below.mono (by assumption) (by first | omega | (simp; done) | (simp; omega))))) (Below.mono g6 (by omega)))
    clear g6
    have hl1 : ∀ b, b < wc.heap.size → b < wc.heap.size := fun _ h => h
    have hk0 := base_facts wc
    go_wp2_with fail
    go_region_held3 (fun w' => w'.cell? ⟨w.heap.size, 0, none⟩ = some (.int .i64 x1) ∧ w'.cell? ⟨w.heap.size, 1, none⟩ = some (.int .i64 y1) ∧ w'.cell? ⟨w.heap.size + 1, 0, none⟩ = some (.int .i64 x2) ∧ w'.cell? ⟨w.heap.size + 1, 1, none⟩ = some (.int .i64 y2)) (refine ⟨?_, ?_, ?_, ?_⟩ <;> first | (go_keep; done) | (simp [*, World.cell?_alloc_past, World.cell?_setCell_far]; done) | (simp [*, World.cell?_alloc_past, World.cell?_alloc_at, World.cell?_setCell_far]; done) | (go_simp; done))
      (first | (go_at_call 16; (refine (toSpot_any _ _ _).mono ?_; rintro e w1 ⟨rfl, hb1⟩; have hs1 := hb1.size; (try simp at hs1); (first | have hk4 := call_facts hl3 hb1 (by simp) | skip); (first | have hk3 := call_facts hl2 hb1 (by simp) | skip); (first | have hk2 := call_facts hl1 hb1 (by simp) | skip); have hk1 := call_facts (fun b h => h) hb1 (Nat.le_refl _); (first | have hl4 := hk4.1 | skip); (first | have hl3 := hk3.1 | skip); (first | have hl2 := hk2.1 | skip); have hl1 := hk1.1)) | (go_at_call 31; (refine (HIM.out _).mono ?_; rintro e w1 ⟨rfl, hb1⟩; have hs1 := hb1.size; (try simp at hs1); (first | have hk4 := call_facts hl3 hb1 (by simp) | skip); (first | have hk3 := call_facts hl2 hb1 (by simp) | skip); (first | have hk2 := call_facts hl1 hb1 (by simp) | skip); have hk1 := call_facts (fun b h => h) hb1 (Nat.le_refl _); (first | have hl4 := hk4.1 | skip); (first | have hl3 := hk3.1 | skip); (first | have hl2 := hk2.1 | skip); have hl1 := hk1.1)))
    all_goals
      go_wp2_with (go_at_call 18; (refine (eqSpot_same _ _ _).mono ?_; rintro e w1 ⟨rfl, hb1⟩; have hs1 := hb1.size; (try simp at hs1); (first | have hk4 := call_facts hl3 hb1 (by simp) | skip); (first | have hk3 := call_facts hl2 hb1 (by simp) | skip); (first | have hk2 := call_facts hl1 hb1 (by simp) | skip); have hk1 := call_facts (fun b h => h) hb1 (Nat.le_refl _); (first | have hl4 := hk4.1 | skip); (first | have hl3 := hk3.1 | skip); (first | have hl2 := hk2.1 | skip); have hl1 := hk1.1))
      go_ret
      exact ⟨rfl, (by repeat (first | exact Below.refl _ _ | assumption | refine Below.drew ?_ | refine below_drewN ?_ _ | refine Below.alloc ?_ (by first | omega | (simp; done) | (simp; omega)) _ | refine Below.setCell ?_ (by first | omega | (simp; done) | (simp; omega)) _ | refine Below.trans ?_ (Below.mono (by assumption) (by first | omega | (simp; done) | (simp; omega)))))⟩

set_option maxRecDepth 100000 in
theorem quartL0_holds : Rows.FnExactQuarterTurnSaid :=
  OpenClaim.holds_of_wide 9 Try.f9 rfl rfl rfl rfl rfl rfl rfl ⟨rfl, rfl, rfl, rfl, rfl⟩ rfl rfl rfl rfl rfl (by kernel_rfl) Try.func9 (by kernel_rfl)
    (of_decide_eq_true (by kernel_rfl)) (by unfold Func.isWrapper; rw [if_neg (of_decide_eq_false (by kernel_rfl))]; exact ⟨rfl, rfl⟩)
    (fun os started H enc _ => law_lifted (C := Try.checked) (s := Rows.fnExactQuarterTurnSpec) Try.own started (by kernel_rfl) Try.func9
      (ChangeSpec.witness6 (enc := enc) (C := Try.checked) false ⟨#[], #[.agg #[.int .i64 0, .int .i64 0], .agg #[.int .i64 0, .int .i64 0]], []⟩ 8 (by kernel_rfl) (by kernel_rfl) (by kernel_rfl) (by kernel_rfl))
      Try.laidOut (by kernel_rfl) rfl Try.underlying4 rfl
      (fun W base args ds p hval hA hlt => by
        have hA' : DataW.TrodAll enc Try.prog W 0 (fun _ => true) true Try.f9.params.toList args.toList ds p := hA
        have hval' : ∀ (j : Nat) t v, Try.f9.params[j]? = some t → args[j]? = some v → Value.okWide Try.prog W .any base t v := hval
        rw [Try.params9] at hA' hval'
        obtain ⟨v0, v1, d0, d1, p0, p1, rfl, rfl, rfl, h0, h1⟩ := trodAll_two hA'
        obtain ⟨x1, y1, rfl, _, _⟩ := open_spot (hval' 0 _ v0 rfl rfl) h0
        obtain ⟨x2, y2, rfl, _, _⟩ := open_spot (hval' 1 _ v1 rfl rfl) h1
        exact ⟨rfl, quartL0_law x1 y1 x2 y2 W⟩))

end Go.Proofs.Ytjdpbjpeohdoiaa
