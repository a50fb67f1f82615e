/- The exact law of WholeCounts holds at every argument. No conditions. -/
import Derived.Test.YtagfleajkalgiaaMvWhole
import Derived.Test.YtagfleajkalgiaaOpenMv
import Derived.Deep.RegionHeld3
import Derived.Deep.DeepCutAuto
import Derived.Deep.DrawnRows
namespace Go.Proofs.Ytagfleajkalgiaa
open Go.ChangeShapes Go.WideShapes Go.ChangeAt Go.RowKit


attribute [local go_sem ↓] Go.wp_at_zero Go.wp_at_succ

set_option maxRecDepth 100000 in
set_option maxHeartbeats 4000000 in
theorem wholeL0_law (x1 y1 x2 y2 n : Int) (w : World) :
    Calls Try.prog 10 #[.agg #[.int .i64 x1, .int .i64 y1, .int .i64 x2, .int .i64 y2, .int .i64 n]] w fun e w' => e = .returned (.bool true) ∧ Below w.heap.size w w' := by
  have hwl : (wholeL x1 y1 x2 y2 n).length ≤ 1048576 := Nat.le_trans (wholeL_length x1 y1 x2 y2 n) (by omega)
  obtain ⟨xs, hxs⟩ : ∃ xs, xs = wholeL x1 y1 x2 y2 n := ⟨_, rfl⟩
  rw [← hxs] at hwl
  have Hxs := Lib.hid hxs
  clear hxs
  obtain ⟨ok, hok⟩ : ∃ b, b = isMv x1 y1 x2 y2 n := ⟨_, rfl⟩
  have Hok := Lib.hid hok
  clear hok
  go_enter Try.func10, Try.ntmps10
  go_wp2_with fail
  refine (toMove_any x1 y1 x2 y2 n _).mono ?_
  rintro e w1 ⟨rfl, hb1⟩
  have c01 : w1.cell? ⟨w.heap.size, 0, none⟩ = some (.int .i64 x1) := (hb1.cell (p := ⟨w.heap.size, 0, none⟩) (by first | omega | (simp; done) | (simp; omega))).trans (by first | assumption | go_simp); have c11 : w1.cell? ⟨w.heap.size, 1, none⟩ = some (.int .i64 y1) := (hb1.cell (p := ⟨w.heap.size, 1, none⟩) (by first | omega | (simp; done) | (simp; omega))).trans (by first | assumption | go_simp); have c21 : w1.cell? ⟨w.heap.size, 2, none⟩ = some (.int .i64 x2) := (hb1.cell (p := ⟨w.heap.size, 2, none⟩) (by first | omega | (simp; done) | (simp; omega))).trans (by first | assumption | go_simp); have c31 : w1.cell? ⟨w.heap.size, 3, none⟩ = some (.int .i64 y2) := (hb1.cell (p := ⟨w.heap.size, 3, none⟩) (by first | omega | (simp; done) | (simp; omega))).trans (by first | assumption | go_simp); have c41 : w1.cell? ⟨w.heap.size, 4, none⟩ = some (.int .i64 n) := (hb1.cell (p := ⟨w.heap.size, 4, none⟩) (by first | omega | (simp; done) | (simp; omega))).trans (by first | assumption | go_simp); have hs1 := hb1.size; (try simp at hs1); have hB1 : Below w.heap.size w w1 := (by repeat (first | exact Below.refl _ _ | assumption | refine Below.drew ?_ | refine below_drewN ?_ _ | refine Below.alloc ?_ (by first | omega | (simp; done) | (simp; omega)) _ | refine Below.setCell ?_ (by first | omega | (simp; done) | (simp; omega)) _ | refine Below.trans ?_ (Below.mono (by assumption) (by first | omega | (simp; done) | (simp; omega))))); have hz1 : w.heap.size < w1.heap.size := (by first | omega | (simp; done) | (simp; omega))
  go_wp2_with fail
  refine (specWhole_any x1 y1 x2 y2 n _).mono ?_
  rintro e w3 ⟨v0, rfl, ho3, hb3⟩
  rw [← Hxs.out] at ho3
  rw [← Hok.out]
  have c03 : w3.cell? ⟨w.heap.size, 0, none⟩ = some (.int .i64 x1) := (hb3.cell (p := ⟨w.heap.size, 0, none⟩) (by first | omega | (simp; done) | (simp; omega))).trans (by first | assumption | go_simp); have c13 : w3.cell? ⟨w.heap.size, 1, none⟩ = some (.int .i64 y1) := (hb3.cell (p := ⟨w.heap.size, 1, none⟩) (by first | omega | (simp; done) | (simp; omega))).trans (by first | assumption | go_simp); have c23 : w3.cell? ⟨w.heap.size, 2, none⟩ = some (.int .i64 x2) := (hb3.cell (p := ⟨w.heap.size, 2, none⟩) (by first | omega | (simp; done) | (simp; omega))).trans (by first | assumption | go_simp); have c33 : w3.cell? ⟨w.heap.size, 3, none⟩ = some (.int .i64 y2) := (hb3.cell (p := ⟨w.heap.size, 3, none⟩) (by first | omega | (simp; done) | (simp; omega))).trans (by first | assumption | go_simp); have c43 : w3.cell? ⟨w.heap.size, 4, none⟩ = some (.int .i64 n) := (hb3.cell (p := ⟨w.heap.size, 4, none⟩) (by first | omega | (simp; done) | (simp; omega))).trans (by first | assumption | go_simp); have hs3 := hb3.size; (try simp at hs3); have hB3 : Below w.heap.size w w3 := (by repeat (first | exact Below.refl _ _ | assumption | refine Below.drew ?_ | refine below_drewN ?_ _ | refine Below.alloc ?_ (by first | omega | (simp; done) | (simp; omega)) _ | refine Below.setCell ?_ (by first | omega | (simp; done) | (simp; omega)) _ | refine Below.trans ?_ (Below.mono (by assumption) (by first | omega | (simp; done) | (simp; omega))))); have hz3 : w.heap.size < w3.heap.size := (by first | omega | (simp; done) | (simp; omega))
  obtain ⟨a0, cap0, rfl, I3, hA0⟩ := own_viewI ho3
  have HA0 := Lib.hid hA0
  clear ho3 hA0
  go_wp2_with fail
  refine (toMove_any x1 y1 x2 y2 n _).mono ?_
  rintro e w5 ⟨rfl, hb5⟩
  have c05 : w5.cell? ⟨w.heap.size, 0, none⟩ = some (.int .i64 x1) := (hb5.cell (p := ⟨w.heap.size, 0, none⟩) (by first | omega | (simp; done) | (simp; omega))).trans (by first | assumption | go_simp); have c15 : w5.cell? ⟨w.heap.size, 1, none⟩ = some (.int .i64 y1) := (hb5.cell (p := ⟨w.heap.size, 1, none⟩) (by first | omega | (simp; done) | (simp; omega))).trans (by first | assumption | go_simp); have c25 : w5.cell? ⟨w.heap.size, 2, none⟩ = some (.int .i64 x2) := (hb5.cell (p := ⟨w.heap.size, 2, none⟩) (by first | omega | (simp; done) | (simp; omega))).trans (by first | assumption | go_simp); have c35 : w5.cell? ⟨w.heap.size, 3, none⟩ = some (.int .i64 y2) := (hb5.cell (p := ⟨w.heap.size, 3, none⟩) (by first | omega | (simp; done) | (simp; omega))).trans (by first | assumption | go_simp); have c45 : w5.cell? ⟨w.heap.size, 4, none⟩ = some (.int .i64 n) := (hb5.cell (p := ⟨w.heap.size, 4, none⟩) (by first | omega | (simp; done) | (simp; omega))).trans (by first | assumption | go_simp); have hs5 := hb5.size; (try simp at hs5); have hB5 : Below w.heap.size w w5 := (by repeat (first | exact Below.refl _ _ | assumption | refine Below.drew ?_ | refine below_drewN ?_ _ | refine Below.alloc ?_ (by first | omega | (simp; done) | (simp; omega)) _ | refine Below.setCell ?_ (by first | omega | (simp; done) | (simp; omega)) _ | refine Below.trans ?_ (Below.mono (by assumption) (by first | omega | (simp; done) | (simp; omega))))); have hz5 : w.heap.size < w5.heap.size := (by first | omega | (simp; done) | (simp; omega))
  have I5 := I3.below hb5
  clear I3
  go_wp2_with fail
  refine (whole_any x1 y1 x2 y2 n _).mono ?_
  rintro e w6 ⟨v1, rfl, ho6, hb6⟩
  rw [← Hxs.out] at ho6
  rw [← Hok.out]
  have c06 : w6.cell? ⟨w.heap.size, 0, none⟩ = some (.int .i64 x1) := (hb6.cell (p := ⟨w.heap.size, 0, none⟩) (by first | omega | (simp; done) | (simp; omega))).trans (by first | assumption | go_simp); have c16 : w6.cell? ⟨w.heap.size, 1, none⟩ = some (.int .i64 y1) := (hb6.cell (p := ⟨w.heap.size, 1, none⟩) (by first | omega | (simp; done) | (simp; omega))).trans (by first | assumption | go_simp); have c26 : w6.cell? ⟨w.heap.size, 2, none⟩ = some (.int .i64 x2) := (hb6.cell (p := ⟨w.heap.size, 2, none⟩) (by first | omega | (simp; done) | (simp; omega))).trans (by first | assumption | go_simp); have c36 : w6.cell? ⟨w.heap.size, 3, none⟩ = some (.int .i64 y2) := (hb6.cell (p := ⟨w.heap.size, 3, none⟩) (by first | omega | (simp; done) | (simp; omega))).trans (by first | assumption | go_simp); have c46 : w6.cell? ⟨w.heap.size, 4, none⟩ = some (.int .i64 n) := (hb6.cell (p := ⟨w.heap.size, 4, none⟩) (by first | omega | (simp; done) | (simp; omega))).trans (by first | assumption | go_simp); have hs6 := hb6.size; (try simp at hs6); have hB6 : Below w.heap.size w w6 := (by repeat (first | exact Below.refl _ _ | assumption | refine Below.drew ?_ | refine below_drewN ?_ _ | refine Below.alloc ?_ (by first | omega | (simp; done) | (simp; omega)) _ | refine Below.setCell ?_ (by first | omega | (simp; done) | (simp; omega)) _ | refine Below.trans ?_ (Below.mono (by assumption) (by first | omega | (simp; done) | (simp; omega))))); have hz6 : w.heap.size < w6.heap.size := (by first | omega | (simp; done) | (simp; omega))
  have I6 := I5.below hb6
  clear I5
  obtain ⟨a1, cap1, rfl, J6, hA1⟩ := own_viewI ho6
  have HA1 := Lib.hid hA1
  clear hA1
  go_wp2_with fail
  refine (eqIntS_same a1 a0 cap1 cap0 xs hwl J6 I6).mono ?_
  rintro e w11 ⟨rfl, hb11⟩
  have c011 : w11.cell? ⟨w.heap.size, 0, none⟩ = some (.int .i64 x1) := (hb11.cell (p := ⟨w.heap.size, 0, none⟩) (by first | omega | (simp; done) | (simp; omega))).trans (by first | assumption | go_simp); have c111 : w11.cell? ⟨w.heap.size, 1, none⟩ = some (.int .i64 y1) := (hb11.cell (p := ⟨w.heap.size, 1, none⟩) (by first | omega | (simp; done) | (simp; omega))).trans (by first | assumption | go_simp); have c211 : w11.cell? ⟨w.heap.size, 2, none⟩ = some (.int .i64 x2) := (hb11.cell (p := ⟨w.heap.size, 2, none⟩) (by first | omega | (simp; done) | (simp; omega))).trans (by first | assumption | go_simp); have c311 : w11.cell? ⟨w.heap.size, 3, none⟩ = some (.int .i64 y2) := (hb11.cell (p := ⟨w.heap.size, 3, none⟩) (by first | omega | (simp; done) | (simp; omega))).trans (by first | assumption | go_simp); have c411 : w11.cell? ⟨w.heap.size, 4, none⟩ = some (.int .i64 n) := (hb11.cell (p := ⟨w.heap.size, 4, none⟩) (by first | omega | (simp; done) | (simp; omega))).trans (by first | assumption | go_simp); have hs11 := hb11.size; (try simp at hs11); have hB11 : Below w.heap.size w w11 := (by repeat (first | exact Below.refl _ _ | assumption | refine Below.drew ?_ | refine below_drewN ?_ _ | refine Below.alloc ?_ (by first | omega | (simp; done) | (simp; omega)) _ | refine Below.setCell ?_ (by first | omega | (simp; done) | (simp; omega)) _ | refine Below.trans ?_ (Below.mono (by assumption) (by first | omega | (simp; done) | (simp; omega))))); have hz11 : w.heap.size < w11.heap.size := (by first | omega | (simp; done) | (simp; omega))
  have I11 := I6.below hb11
  have ho11 := own_below ho6 hb11
  clear I6 J6 ho6
  go_wp2_with fail
  refine (markIntS_any a1 w5.heap.size cap1 xs hwl ho11).mono ?_
  rintro e w12 ⟨rfl, M12, hg12⟩
  have hne12 : some w.heap.size ≠ a1.map (·.block) := fun e => by
    cases h : a1 with
    | none => rw [h] at e; cases e
    | some z => rw [h] at e; have h1 := HA1.out z h; have h2 : w.heap.size = z.block := Option.some.inj e; omega
  have hup12 : ∀ k, a1.map (·.block) = some k → w.heap.size ≤ k := fun k e => by
    cases h : a1 with
    | none => rw [h] at e; cases e
    | some z => rw [h] at e; have h1 := HA1.out z h; have h2 : z.block = k := Option.some.inj e; omega
  have c012 : w12.cell? ⟨w.heap.size, 0, none⟩ = some (.int .i64 x1) := hg12.cell c011 hne12; have c112 : w12.cell? ⟨w.heap.size, 1, none⟩ = some (.int .i64 y1) := hg12.cell c111 hne12; have c212 : w12.cell? ⟨w.heap.size, 2, none⟩ = some (.int .i64 x2) := hg12.cell c211 hne12; have c312 : w12.cell? ⟨w.heap.size, 3, none⟩ = some (.int .i64 y2) := hg12.cell c311 hne12; have c412 : w12.cell? ⟨w.heap.size, 4, none⟩ = some (.int .i64 n) := hg12.cell c411 hne12; have hs12 := hg12.size; have hB12 : Below w.heap.size w w12 := hB11.grown hg12 (by omega) hup12; have hz12 : w.heap.size < w12.heap.size := by omega
  have I12 := ints_other I11 hg12 (fun z hz e => by
    cases h : a1 with
    | none => rw [h] at e; cases e
    | some z' => rw [h] at e; have h0 := HA0.out z hz; have h1 := HA1.out z' h; have h2 : z.block = z'.block := Option.some.inj e; omega)
  clear I11 ho11 hne12 hup12 hg12
  go_wp2_with fail
  refine (heldIntS_ones a1 cap1 xs.length hwl M12).mono ?_
  rintro e w' ⟨rfl, rfl⟩
  go_wp2_with fail
  refine (toMove_any x1 y1 x2 y2 n _).mono ?_
  rintro e w13 ⟨rfl, hb13⟩
  have c013 : w13.cell? ⟨w.heap.size, 0, none⟩ = some (.int .i64 x1) := (hb13.cell (p := ⟨w.heap.size, 0, none⟩) (by first | omega | (simp; done) | (simp; omega))).trans (by first | assumption | go_simp); have c113 : w13.cell? ⟨w.heap.size, 1, none⟩ = some (.int .i64 y1) := (hb13.cell (p := ⟨w.heap.size, 1, none⟩) (by first | omega | (simp; done) | (simp; omega))).trans (by first | assumption | go_simp); have c213 : w13.cell? ⟨w.heap.size, 2, none⟩ = some (.int .i64 x2) := (hb13.cell (p := ⟨w.heap.size, 2, none⟩) (by first | omega | (simp; done) | (simp; omega))).trans (by first | assumption | go_simp); have c313 : w13.cell? ⟨w.heap.size, 3, none⟩ = some (.int .i64 y2) := (hb13.cell (p := ⟨w.heap.size, 3, none⟩) (by first | omega | (simp; done) | (simp; omega))).trans (by first | assumption | go_simp); have c413 : w13.cell? ⟨w.heap.size, 4, none⟩ = some (.int .i64 n) := (hb13.cell (p := ⟨w.heap.size, 4, none⟩) (by first | omega | (simp; done) | (simp; omega))).trans (by first | assumption | go_simp); have hs13 := hb13.size; (try simp at hs13); have hB13 : Below w.heap.size w w13 := (by repeat (first | exact Below.refl _ _ | assumption | refine Below.drew ?_ | refine below_drewN ?_ _ | refine Below.alloc ?_ (by first | omega | (simp; done) | (simp; omega)) _ | refine Below.setCell ?_ (by first | omega | (simp; done) | (simp; omega)) _ | refine Below.trans ?_ (Below.mono (by assumption) (by first | omega | (simp; done) | (simp; omega))))); have hz13 : w.heap.size < w13.heap.size := (by first | omega | (simp; done) | (simp; omega))
  have I13 := I12.below hb13
  have M13 := M12.below hb13
  clear I12 M12
  go_wp2_with fail
  refine (whole_any x1 y1 x2 y2 n _).mono ?_
  rintro e w15 ⟨v2, rfl, ho15, hb15⟩
  rw [← Hxs.out] at ho15
  rw [← Hok.out]
  have c015 : w15.cell? ⟨w.heap.size, 0, none⟩ = some (.int .i64 x1) := (hb15.cell (p := ⟨w.heap.size, 0, none⟩) (by first | omega | (simp; done) | (simp; omega))).trans (by first | assumption | go_simp); have c115 : w15.cell? ⟨w.heap.size, 1, none⟩ = some (.int .i64 y1) := (hb15.cell (p := ⟨w.heap.size, 1, none⟩) (by first | omega | (simp; done) | (simp; omega))).trans (by first | assumption | go_simp); have c215 : w15.cell? ⟨w.heap.size, 2, none⟩ = some (.int .i64 x2) := (hb15.cell (p := ⟨w.heap.size, 2, none⟩) (by first | omega | (simp; done) | (simp; omega))).trans (by first | assumption | go_simp); have c315 : w15.cell? ⟨w.heap.size, 3, none⟩ = some (.int .i64 y2) := (hb15.cell (p := ⟨w.heap.size, 3, none⟩) (by first | omega | (simp; done) | (simp; omega))).trans (by first | assumption | go_simp); have c415 : w15.cell? ⟨w.heap.size, 4, none⟩ = some (.int .i64 n) := (hb15.cell (p := ⟨w.heap.size, 4, none⟩) (by first | omega | (simp; done) | (simp; omega))).trans (by first | assumption | go_simp); have hs15 := hb15.size; (try simp at hs15); have hB15 : Below w.heap.size w w15 := (by repeat (first | exact Below.refl _ _ | assumption | refine Below.drew ?_ | refine below_drewN ?_ _ | refine Below.alloc ?_ (by first | omega | (simp; done) | (simp; omega)) _ | refine Below.setCell ?_ (by first | omega | (simp; done) | (simp; omega)) _ | refine Below.trans ?_ (Below.mono (by assumption) (by first | omega | (simp; done) | (simp; omega))))); have hz15 : w.heap.size < w15.heap.size := (by first | omega | (simp; done) | (simp; omega))
  have I15 := I13.below hb15
  have M15 := M13.below hb15
  clear I13 M13
  obtain ⟨a2, cap2, rfl, J15, _⟩ := own_viewI ho15
  clear ho15
  go_wp2_with fail
  refine (eqIntS_same a2 a0 cap2 cap0 xs hwl J15 I15).mono ?_
  rintro e w16 ⟨rfl, hb16⟩
  have c016 : w16.cell? ⟨w.heap.size, 0, none⟩ = some (.int .i64 x1) := (hb16.cell (p := ⟨w.heap.size, 0, none⟩) (by first | omega | (simp; done) | (simp; omega))).trans (by first | assumption | go_simp); have c116 : w16.cell? ⟨w.heap.size, 1, none⟩ = some (.int .i64 y1) := (hb16.cell (p := ⟨w.heap.size, 1, none⟩) (by first | omega | (simp; done) | (simp; omega))).trans (by first | assumption | go_simp); have c216 : w16.cell? ⟨w.heap.size, 2, none⟩ = some (.int .i64 x2) := (hb16.cell (p := ⟨w.heap.size, 2, none⟩) (by first | omega | (simp; done) | (simp; omega))).trans (by first | assumption | go_simp); have c316 : w16.cell? ⟨w.heap.size, 3, none⟩ = some (.int .i64 y2) := (hb16.cell (p := ⟨w.heap.size, 3, none⟩) (by first | omega | (simp; done) | (simp; omega))).trans (by first | assumption | go_simp); have c416 : w16.cell? ⟨w.heap.size, 4, none⟩ = some (.int .i64 n) := (hb16.cell (p := ⟨w.heap.size, 4, none⟩) (by first | omega | (simp; done) | (simp; omega))).trans (by first | assumption | go_simp); have hs16 := hb16.size; (try simp at hs16); have hB16 : Below w.heap.size w w16 := (by repeat (first | exact Below.refl _ _ | assumption | refine Below.drew ?_ | refine below_drewN ?_ _ | refine Below.alloc ?_ (by first | omega | (simp; done) | (simp; omega)) _ | refine Below.setCell ?_ (by first | omega | (simp; done) | (simp; omega)) _ | refine Below.trans ?_ (Below.mono (by assumption) (by first | omega | (simp; done) | (simp; omega))))); have hz16 : w.heap.size < w16.heap.size := (by first | omega | (simp; done) | (simp; omega))
  have M16 := M15.below hb16
  clear I15 M15 J15
  go_wp2_with fail
  refine (heldIntS_ones a1 cap1 xs.length hwl M16).mono ?_
  rintro e w' ⟨rfl, rfl⟩
  go_wp2_with fail
  go_ret
  exact ⟨rfl, hB16⟩

set_option maxRecDepth 100000 in
theorem wholeL0_holds : Rows.FnExactWholeCountsSaid :=
  OpenClaim.holds_of_wide 10 Try.f10 rfl rfl rfl rfl rfl rfl rfl ⟨rfl, rfl, rfl, rfl, rfl⟩ rfl rfl rfl rfl rfl (by kernel_rfl) Try.func10 (by kernel_rfl)
    (of_decide_eq_true (by kernel_rfl)) (by unfold Func.isWrapper; rw [if_neg (of_decide_eq_false (by kernel_rfl))]; exact ⟨rfl, rfl⟩)
    (fun os started H enc _ => law_lifted (C := Try.checked) (s := Rows.fnExactWholeCountsSpec) Try.own started (by kernel_rfl) Try.func10
      (ChangeSpec.witness6 (enc := enc) (C := Try.checked) false ⟨#[], #[.agg #[.int .i64 0, .int .i64 0, .int .i64 0, .int .i64 0, .int .i64 0]], []⟩ 8 (by kernel_rfl) (by kernel_rfl) (by kernel_rfl) (by kernel_rfl))
      Try.laidOut (by kernel_rfl) rfl Try.underlying4 rfl
      (fun W base args ds p hval hA hlt => by
        have hA' : DataW.TrodAll enc Try.prog W 0 (fun _ => true) true Try.f10.params.toList args.toList ds p := hA
        have hval' : ∀ (j : Nat) t v, Try.f10.params[j]? = some t → args[j]? = some v → Value.okWide Try.prog W .any base t v := hval
        rw [Try.params10] at hA' hval'
        obtain ⟨v0, d0, rfl, rfl, h0⟩ := trodAll_one hA'
        obtain ⟨x1, y1, x2, y2, n, rfl⟩ := open_move (hval' 0 _ v0 rfl rfl) h0
        exact ⟨rfl, wholeL0_law x1 y1 x2 y2 n W⟩))

end Go.Proofs.Ytagfleajkalgiaa
