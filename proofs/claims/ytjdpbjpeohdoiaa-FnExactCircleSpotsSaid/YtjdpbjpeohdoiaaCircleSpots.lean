/- The exact law of CircleSpots holds at every argument. No conditions. -/
import Derived.Test.YtjdpbjpeohdoiaaArCir
import Derived.Test.YtjdpbjpeohdoiaaEqSpot
import Derived.Test.YtjdpbjpeohdoiaaMkSpot
import Derived.Test.YtjdpbjpeohdoiaaOpenSt
import Derived.Deep.RegionHeld3
import Derived.Deep.DeepCutAuto
import Derived.Deep.DrawnRows
namespace Go.Proofs.Ytjdpbjpeohdoiaa
open Go.ChangeShapes Go.WideShapes Go.ChangeAt Go.RowKit


attribute [local go_sem ↓] Go.wp_at_zero Go.wp_at_succ

set_option maxRecDepth 100000 in
set_option maxHeartbeats 4000000 in
theorem cirL0_law (x1 y1 r : Int) (w : World) :
    Calls Try.prog 10 #[.agg #[.int .i64 x1, .int .i64 y1], .int .i64 r] w fun e w' => e = .returned (.bool true) ∧ Below w.heap.size w w' := by
  have hxl : (onIf (cirL x1 y1 r)).length ≤ 1048576 := Nat.le_trans (onIf_length _) (Nat.le_trans (cirL_length _ _ _) (by omega))
  have HSP := Lib.hid (fun W => specCir_any x1 y1 r W)
  have HIM := Lib.hid (fun W => cir_any x1 y1 r W)
  obtain ⟨xs, hxs⟩ : ∃ xs, xs = onIf (cirL x1 y1 r) := ⟨_, rfl⟩
  obtain ⟨ok, hok⟩ : ∃ ok, ok = (arOk x1 y1 r && allOn (cirL x1 y1 r)) := ⟨_, rfl⟩
  rw [← hxs] at hxl
  simp only [← hxs, ← hok] at HSP HIM
  have hB0 : Below w.heap.size w w := Below.refl _ _
  clear hxs hok
  go_enter Try.func10, Try.ntmps10
  go_wp2_with fail
  refine (toSpot_any _ _ _).mono ?_
  rintro e w2 ⟨rfl, hb2⟩
  have hs2 := hb2.size; (try simp at hs2); have hB2 : Below w.heap.size w w2 := (by repeat (first | exact Below.refl _ _ | assumption | refine Below.drew ?_ | refine below_drewN ?_ _ | refine Below.alloc ?_ (by first | omega | (simp; done) | (simp; omega)) _ | refine Below.setCell ?_ (by first | omega | (simp; done) | (simp; omega)) _ | refine Below.trans ?_ (Below.mono (by assumption) (by first | omega | (simp; done) | (simp; omega)))))
  have d0 : w2.cell? ⟨w.heap.size, 0, none⟩ = some (.int .i64 x1) := (hb2.cell (p := ⟨w.heap.size, 0, none⟩) (by first | omega | (simp; done) | (simp; omega))).trans (by go_simp)
  have d1 : w2.cell? ⟨w.heap.size, 1, none⟩ = some (.int .i64 y1) := (hb2.cell (p := ⟨w.heap.size, 1, none⟩) (by first | omega | (simp; done) | (simp; omega))).trans (by go_simp)
  go_wp2_with fail
  refine (HSP.out _).mono ?_
  rintro e w3 ⟨v0, rfl, ho3, hb3⟩
  have hs3 := hb3.size; (try simp at hs3); have hB3 : Below w.heap.size w w3 := (by repeat (first | exact Below.refl _ _ | assumption | refine Below.drew ?_ | refine below_drewN ?_ _ | refine Below.alloc ?_ (by first | omega | (simp; done) | (simp; omega)) _ | refine Below.setCell ?_ (by first | omega | (simp; done) | (simp; omega)) _ | refine Below.trans ?_ (Below.mono (by assumption) (by first | omega | (simp; done) | (simp; omega)))))
  replace d0 : w3.cell? ⟨w.heap.size, 0, none⟩ = _ := (hb3.cell (p := ⟨w.heap.size, 0, none⟩) (by first | omega | (simp; done) | (simp; omega))).trans d0
  replace d1 : w3.cell? ⟨w.heap.size, 1, none⟩ = _ := (hb3.cell (p := ⟨w.heap.size, 1, none⟩) (by first | omega | (simp; done) | (simp; omega))).trans d1
  obtain ⟨a0, cap0, rfl, I3, hA0⟩ := own_viewP ho3
  have HA0 := Lib.hid hA0
  clear ho3 hA0 hb2
  go_wp2_with fail
  refine (toSpot_any _ _ _).mono ?_
  rintro e w5 ⟨rfl, hb5⟩
  have hs5 := hb5.size; (try simp at hs5); have hB5 : Below w.heap.size w w5 := (by repeat (first | exact Below.refl _ _ | assumption | refine Below.drew ?_ | refine below_drewN ?_ _ | refine Below.alloc ?_ (by first | omega | (simp; done) | (simp; omega)) _ | refine Below.setCell ?_ (by first | omega | (simp; done) | (simp; omega)) _ | refine Below.trans ?_ (Below.mono (by assumption) (by first | omega | (simp; done) | (simp; omega)))))
  replace d0 : w5.cell? ⟨w.heap.size, 0, none⟩ = _ := (hb5.cell (p := ⟨w.heap.size, 0, none⟩) (by first | omega | (simp; done) | (simp; omega))).trans d0
  replace d1 : w5.cell? ⟨w.heap.size, 1, none⟩ = _ := (hb5.cell (p := ⟨w.heap.size, 1, none⟩) (by first | omega | (simp; done) | (simp; omega))).trans d1
  have I5 := I3.below hb5
  clear I3 hb3
  go_wp2_with fail
  refine (HIM.out _).mono ?_
  rintro e w6 ⟨v1, rfl, ho6, hb6⟩
  have hs6 := hb6.size; (try simp at hs6); have hB6 : Below w.heap.size w w6 := (by repeat (first | exact Below.refl _ _ | assumption | refine Below.drew ?_ | refine below_drewN ?_ _ | refine Below.alloc ?_ (by first | omega | (simp; done) | (simp; omega)) _ | refine Below.setCell ?_ (by first | omega | (simp; done) | (simp; omega)) _ | refine Below.trans ?_ (Below.mono (by assumption) (by first | omega | (simp; done) | (simp; omega)))))
  replace d0 : w6.cell? ⟨w.heap.size, 0, none⟩ = _ := (hb6.cell (p := ⟨w.heap.size, 0, none⟩) (by first | omega | (simp; done) | (simp; omega))).trans d0
  replace d1 : w6.cell? ⟨w.heap.size, 1, none⟩ = _ := (hb6.cell (p := ⟨w.heap.size, 1, none⟩) (by first | omega | (simp; done) | (simp; omega))).trans d1
  have I6 := I5.below hb6
  clear I5 hb5
  obtain ⟨a1, cap1, rfl, J6, hA1⟩ := own_viewP ho6
  have HA1 := Lib.hid hA1
  clear hA1
  go_wp2_with fail
  refine (eqSpotS_same a1 a0 cap1 cap0 xs hxl J6 I6).mono ?_
  rintro e w7 ⟨rfl, hb7⟩
  have hs7 := hb7.size; (try simp at hs7); have hB7 : Below w.heap.size w w7 := (by repeat (first | exact Below.refl _ _ | assumption | refine Below.drew ?_ | refine below_drewN ?_ _ | refine Below.alloc ?_ (by first | omega | (simp; done) | (simp; omega)) _ | refine Below.setCell ?_ (by first | omega | (simp; done) | (simp; omega)) _ | refine Below.trans ?_ (Below.mono (by assumption) (by first | omega | (simp; done) | (simp; omega)))))
  replace d0 : w7.cell? ⟨w.heap.size, 0, none⟩ = _ := (hb7.cell (p := ⟨w.heap.size, 0, none⟩) (by first | omega | (simp; done) | (simp; omega))).trans d0
  replace d1 : w7.cell? ⟨w.heap.size, 1, none⟩ = _ := (hb7.cell (p := ⟨w.heap.size, 1, none⟩) (by first | omega | (simp; done) | (simp; omega))).trans d1
  have I7 := I6.below hb7
  have ho7 := own_below ho6 hb7
  clear I6 J6 ho6 hb6 hb7
  cases ok
  all_goals
    go_wp2_with fail
    refine (markSpotS_any a1 w5.heap.size cap1 xs hxl ho7).mono ?_
    rintro e w12 ⟨rfl, M12, hg12⟩
    have hup12 : ∀ k, a1.map (·.block) = some k → w.heap.size ≤ k := fun k e => by
      cases h : a1 with
      | none => rw [h] at e; cases e
      | some z => rw [h] at e; have h1 := HA1.out z h; have h2 : z.block = k := Option.some.inj e; omega
    have hs12 := hg12.size; have hB12 : Below w.heap.size w w12 := hB7.grown hg12 (by omega) hup12
    have I12 := I7.other hg12 (fun z hz e => by
      cases h : a1 with
      | none => rw [h] at e; cases e
      | some z' => rw [h] at e; have h0 := HA0.out z hz; have h1 := HA1.out z' h; have h2 : z.block = z'.block := Option.some.inj e; omega)
    have hne12 : some w.heap.size ≠ a1.map (·.block) := fun e => by
      cases h : a1 with
      | none => rw [h] at e; cases e
      | some z => rw [h] at e; have h1 := HA1.out z h; have h2 : w.heap.size = z.block := Option.some.inj e; omega
    replace d0 : w12.cell? ⟨w.heap.size, 0, none⟩ = _ := hg12.cell d0 hne12
    replace d1 : w12.cell? ⟨w.heap.size, 1, none⟩ = _ := hg12.cell d1 hne12
    clear I7 ho7 hup12 hg12 hne12
    go_wp2_with fail
    refine (heldSpotS_marks a1 cap1 xs.length hxl M12).mono ?_
    rintro e w' ⟨rfl, rfl⟩
    go_wp2_with fail
    refine (toSpot_any _ _ _).mono ?_
    rintro e w14 ⟨rfl, hb14⟩
    have hs14 := hb14.size; (try simp at hs14); have hB14 : Below w.heap.size w w14 := (by repeat (first | exact Below.refl _ _ | assumption | refine Below.drew ?_ | refine below_drewN ?_ _ | refine Below.alloc ?_ (by first | omega | (simp; done) | (simp; omega)) _ | refine Below.setCell ?_ (by first | omega | (simp; done) | (simp; omega)) _ | refine Below.trans ?_ (Below.mono (by assumption) (by first | omega | (simp; done) | (simp; omega)))))
    have I14 := I12.below hb14
    have M14 := M12.below hb14
    clear I12 M12 d0 d1
    go_wp2_with fail
    refine (HIM.out _).mono ?_
    rintro e w15 ⟨v2, rfl, ho15, hb15⟩
    have hs15 := hb15.size; (try simp at hs15); have hB15 : Below w.heap.size w w15 := (by repeat (first | exact Below.refl _ _ | assumption | refine Below.drew ?_ | refine below_drewN ?_ _ | refine Below.alloc ?_ (by first | omega | (simp; done) | (simp; omega)) _ | refine Below.setCell ?_ (by first | omega | (simp; done) | (simp; omega)) _ | refine Below.trans ?_ (Below.mono (by assumption) (by first | omega | (simp; done) | (simp; omega)))))
    have I15 := I14.below hb15
    have M15 := M14.below hb15
    clear I14 M14
    obtain ⟨a2, cap2, rfl, J15, _⟩ := own_viewP ho15
    clear ho15
    go_wp2_with fail
    refine (eqSpotS_same a2 a0 cap2 cap0 xs hxl J15 I15).mono ?_
    rintro e w16 ⟨rfl, hb16⟩
    have hs16 := hb16.size; (try simp at hs16); have hB16 : Below w.heap.size w w16 := (by repeat (first | exact Below.refl _ _ | assumption | refine Below.drew ?_ | refine below_drewN ?_ _ | refine Below.alloc ?_ (by first | omega | (simp; done) | (simp; omega)) _ | refine Below.setCell ?_ (by first | omega | (simp; done) | (simp; omega)) _ | refine Below.trans ?_ (Below.mono (by assumption) (by first | omega | (simp; done) | (simp; omega)))))
    have M16 := M15.below hb16
    clear I15 M15 J15
    go_wp2_with fail
    refine (heldSpotS_marks a1 cap1 xs.length hxl M16).mono ?_
    rintro e w' ⟨rfl, rfl⟩
    go_wp2_with fail
    go_ret
    exact ⟨rfl, hB16⟩

set_option maxRecDepth 100000 in
theorem cirL0_holds : Rows.FnExactCircleSpotsSaid :=
  OpenClaim.holds_of_wide 10 Try.f10 rfl rfl rfl rfl rfl rfl rfl ⟨rfl, rfl, rfl, rfl, rfl⟩ rfl rfl rfl rfl rfl (by kernel_rfl) Try.func10 (by kernel_rfl)
    (of_decide_eq_true (by kernel_rfl)) (by unfold Func.isWrapper; rw [if_neg (of_decide_eq_false (by kernel_rfl))]; exact ⟨rfl, rfl⟩)
    (fun os started H enc _ => law_lifted (C := Try.checked) (s := Rows.fnExactCircleSpotsSpec) Try.own started (by kernel_rfl) Try.func10
      (ChangeSpec.witness6 (enc := enc) (C := Try.checked) false ⟨#[], #[.agg #[.int .i64 0, .int .i64 0], .int .i64 0], []⟩ 8 (by kernel_rfl) (by kernel_rfl) (by kernel_rfl) (by kernel_rfl))
      Try.laidOut (by kernel_rfl) rfl Try.underlying4 rfl
      (fun W base args ds p hval hA hlt => by
        have hA' : DataW.TrodAll enc Try.prog W 0 (fun _ => true) true Try.f10.params.toList args.toList ds p := hA
        have hval' : ∀ (j : Nat) t v, Try.f10.params[j]? = some t → args[j]? = some v → Value.okWide Try.prog W .any base t v := hval
        rw [Try.params10] at hA' hval'
        obtain ⟨v0, v1, d0, d1, p0, p1, rfl, rfl, rfl, h0, h1⟩ := trodAll_two hA'
        obtain ⟨x1, y1, rfl, _, _⟩ := open_spot (hval' 0 _ v0 rfl rfl) h0
        obtain ⟨r, rfl, rfl, rfl, wfr⟩ := open_int Try.underlying3 (hval' 1 _ v1 rfl rfl) h1
        exact ⟨rfl, cirL0_law x1 y1 r W⟩))

end Go.Proofs.Ytjdpbjpeohdoiaa
