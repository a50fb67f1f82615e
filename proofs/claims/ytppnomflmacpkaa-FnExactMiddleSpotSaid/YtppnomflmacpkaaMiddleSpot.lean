/- The exact law of MiddleSpot holds at every argument. No conditions. -/
import Derived.Test.YtppnomflmacpkaaFmMid
import Derived.Test.YtppnomflmacpkaaEqSpot
import Derived.Test.YtppnomflmacpkaaMkSpot
import Derived.Test.YtppnomflmacpkaaOpenSpot
namespace Go.Proofs.Ytppnomflmacpkaa
open Go.ChangeShapes Go.WideShapes Go.ChangeAt Go.RowKit


set_option maxHeartbeats 2000000 in
theorem middleL0_over (a : Option Addr) (cap : Nat) (l : List (Int × Int)) (hl : 1048576 < l.length) (hm : l.length ≤ 9223372036854775807) (w : World) :
    Calls Try.prog 7 #[.slice a l.length cap] w fun e w' => e = .returned (.bool true) ∧ Below w.heap.size w w' := by
  go_enter Try.func7, Try.ntmps7
  go_wp2_with fail
  refine (szSpotS_over a cap l.length hl hm _).mono ?_
  rintro e w' ⟨rfl, rfl⟩
  go_wp2_with fail
  go_ret
  exact ⟨rfl, (by repeat (first | exact Below.refl _ _ | assumption | refine Below.drew ?_ | refine below_drewN ?_ _ | refine Below.alloc ?_ (by first | omega | (simp; done) | (simp; omega)) _ | refine Below.setCell ?_ (by first | omega | (simp; done) | (simp; omega)) _ | refine Below.trans ?_ (Below.mono (by assumption) (by first | omega | (simp; done) | (simp; omega)))))⟩

set_option maxHeartbeats 2000000 in
theorem middleL0_fits (a : Option Addr) (cap : Nat) (l : List (Int × Int)) (hl : l.length ≤ 1048576) (w : World) (ha : PairsAt w a l) :
    Calls Try.prog 7 #[.slice a l.length cap] w fun e w' => e = .returned (.bool true) ∧ Below w.heap.size w w' := by
  have HSP := Lib.hid (fun (b : Option Addr) (W : World) (s : PairsAt W b l) => specMid_any b l.length l hl (Nat.le_refl _) s )
  have HIM := Lib.hid (fun (b : Option Addr) (W : World) (s : PairsAt W b l) => mid_any b l.length l hl s )
  obtain ⟨X0, hX0⟩ : ∃ X, X = guardI (chOk l) (midX l) := ⟨_, rfl⟩
  obtain ⟨Y0, hY0⟩ : ∃ Y, Y = guardI (chOk l) (midY l) := ⟨_, rfl⟩
  obtain ⟨ok, hok⟩ : ∃ ok, ok = chOk l := ⟨_, rfl⟩
  simp only [← hX0, ← hY0] at HSP HIM
  simp only [← hok] at HSP HIM
  clear hok hX0 hY0
  go_enter Try.func7, Try.ntmps7
  go_wp2_with fail
  refine (szSpotS_fits a cap l.length hl _).mono ?_
  rintro e w' ⟨rfl, rfl⟩
  go_wp2_with fail
  refine (toSpotS_any a cap l hl (ha.below (Below.refl _ _))).mono ?_
  rintro e w2 ⟨rfl, hr2, hb2⟩
  have hs2 := hb2.size; (try simp at hs2); have hB2 : Below w.heap.size w w2 := (by repeat (first | exact Below.refl _ _ | assumption | refine Below.drew ?_ | refine below_drewN ?_ _ | refine Below.alloc ?_ (by first | omega | (simp; done) | (simp; omega)) _ | refine Below.setCell ?_ (by first | omega | (simp; done) | (simp; omega)) _ | refine Below.trans ?_ (Below.mono (by assumption) (by first | omega | (simp; done) | (simp; omega)))))
  have s2 := row_pairs hr2
  clear hr2
  go_wp2_with fail
  with_reducible refine (HSP.out _ _ s2).mono ?_
  rintro e w3 ⟨rfl, hb3⟩
  have hs3 := hb3.size; (try simp at hs3); have hB3 : Below w.heap.size w w3 := (by repeat (first | exact Below.refl _ _ | assumption | refine Below.drew ?_ | refine below_drewN ?_ _ | refine Below.alloc ?_ (by first | omega | (simp; done) | (simp; omega)) _ | refine Below.setCell ?_ (by first | omega | (simp; done) | (simp; omega)) _ | refine Below.trans ?_ (Below.mono (by assumption) (by first | omega | (simp; done) | (simp; omega)))))
  clear s2
  go_wp2_with fail
  refine (toSpotS_any a cap l hl (ha.below (by repeat (first | exact Below.refl _ _ | assumption | refine Below.drew ?_ | refine below_drewN ?_ _ | refine Below.alloc ?_ (by first | omega | (simp; done) | (simp; omega)) _ | refine Below.setCell ?_ (by first | omega | (simp; done) | (simp; omega)) _ | refine Below.trans ?_ (Below.mono (by assumption) (by first | omega | (simp; done) | (simp; omega))))))).mono ?_
  rintro e w4 ⟨rfl, hr4, hb4⟩
  have hs4 := hb4.size; (try simp at hs4); have hB4 : Below w.heap.size w w4 := (by repeat (first | exact Below.refl _ _ | assumption | refine Below.drew ?_ | refine below_drewN ?_ _ | refine Below.alloc ?_ (by first | omega | (simp; done) | (simp; omega)) _ | refine Below.setCell ?_ (by first | omega | (simp; done) | (simp; omega)) _ | refine Below.trans ?_ (Below.mono (by assumption) (by first | omega | (simp; done) | (simp; omega)))))
  have p00 : w4.cell? ⟨w3.heap.size, 0, none⟩ = some (.int .i64 X0) := (hb4.cell (p := ⟨w3.heap.size, 0, none⟩) (by first | omega | (simp; done) | (simp; omega))).trans (by go_simp); have p01 : w4.cell? ⟨w3.heap.size, 1, none⟩ = some (.int .i64 Y0) := (hb4.cell (p := ⟨w3.heap.size, 1, none⟩) (by first | omega | (simp; done) | (simp; omega))).trans (by go_simp)
  have s4 : PairsAt w4 (some ⟨w3.heap.size + 1, 0, none⟩) l := by have h := row_pairs hr4; simpa using h
  clear hr4
  go_wp2_with fail
  with_reducible refine (HIM.out _ _ s4).mono ?_
  rintro e w6 ⟨rfl, hb6⟩
  have hs6 := hb6.size; (try simp at hs6); have hB6 : Below w.heap.size w w6 := (by repeat (first | exact Below.refl _ _ | assumption | refine Below.drew ?_ | refine below_drewN ?_ _ | refine Below.alloc ?_ (by first | omega | (simp; done) | (simp; omega)) _ | refine Below.setCell ?_ (by first | omega | (simp; done) | (simp; omega)) _ | refine Below.trans ?_ (Below.mono (by assumption) (by first | omega | (simp; done) | (simp; omega)))))
  replace p00 : w6.cell? ⟨w3.heap.size, 0, none⟩ = _ := (hb6.cell (p := ⟨w3.heap.size, 0, none⟩) (by first | omega | (simp; done) | (simp; omega))).trans p00; replace p01 : w6.cell? ⟨w3.heap.size, 1, none⟩ = _ := (hb6.cell (p := ⟨w3.heap.size, 1, none⟩) (by first | omega | (simp; done) | (simp; omega))).trans p01
  have s6 := s4.below hb6
  clear s4
  have z0 : w3.heap.size < w6.heap.size := (by omega); have zn0 : ¬ w3.heap.size = w6.heap.size := (by omega); have zm0 : ¬ w6.heap.size = w3.heap.size := (by omega)
  go_wp2_with fail
  with_reducible refine (eqSpot_same X0 Y0 _).mono ?_
  rintro e w20 ⟨rfl, hb20⟩
  have hs20 := hb20.size; (try simp at hs20); have hB20 : Below w.heap.size w w20 := (by repeat (first | exact Below.refl _ _ | assumption | refine Below.drew ?_ | refine below_drewN ?_ _ | refine Below.alloc ?_ (by first | omega | (simp; done) | (simp; omega)) _ | refine Below.setCell ?_ (by first | omega | (simp; done) | (simp; omega)) _ | refine Below.trans ?_ (Below.mono (by assumption) (by first | omega | (simp; done) | (simp; omega)))))
  have s7 : PairsAt w20 _ l := ((s6.alloc _).below hb20)
  clear s6
  cases ok
  all_goals
    go_wp2_with fail
    refine (toSpotS_any a cap l hl (ha.below hB20)).mono ?_
    rintro e w8 ⟨rfl, hr8, hb8⟩
    have hs8 := hb8.size; (try simp at hs8); have hB8 : Below w.heap.size w w8 := (by repeat (first | exact Below.refl _ _ | assumption | refine Below.drew ?_ | refine below_drewN ?_ _ | refine Below.alloc ?_ (by first | omega | (simp; done) | (simp; omega)) _ | refine Below.setCell ?_ (by first | omega | (simp; done) | (simp; omega)) _ | refine Below.trans ?_ (Below.mono (by assumption) (by first | omega | (simp; done) | (simp; omega)))))
    have s8 := row_pairs hr8
    have t8 := s7.below hb8
    clear hr8 s7
    go_wp2_with fail
    refine (eqSpotS_same _ _ _ _ l hl t8 s8).mono ?_
    rintro e w9 ⟨rfl, hb9⟩
    go_wp2_with fail
    go_ret
    exact ⟨rfl, (by repeat (first | exact Below.refl _ _ | assumption | refine Below.drew ?_ | refine below_drewN ?_ _ | refine Below.alloc ?_ (by first | omega | (simp; done) | (simp; omega)) _ | refine Below.setCell ?_ (by first | omega | (simp; done) | (simp; omega)) _ | refine Below.trans ?_ (Below.mono (by assumption) (by first | omega | (simp; done) | (simp; omega)))))⟩

theorem middleL0_law (a : Option Addr) (cap : Nat) (l : List (Int × Int)) (hm : l.length ≤ 9223372036854775807) (w : World) (ha : PairsAt w a l) :
    Calls Try.prog 7 #[.slice a l.length cap] w fun e w' => e = .returned (.bool true) ∧ Below w.heap.size w w' := by
  by_cases hl : l.length ≤ 1048576
  · exact middleL0_fits  a cap l hl w ha
  · exact middleL0_over  a cap l (by omega) hm w


set_option maxRecDepth 100000 in
theorem middleL0_holds : Rows.FnExactMiddleSpotSaid :=
  OpenClaim.holds_of_wide 7 Try.f7 rfl rfl rfl rfl rfl rfl rfl ⟨rfl, rfl, rfl, rfl, rfl⟩ rfl rfl rfl rfl rfl (by kernel_rfl) Try.func7 (by kernel_rfl)
    (of_decide_eq_true (by kernel_rfl)) (by unfold Func.isWrapper; rw [if_neg (of_decide_eq_false (by kernel_rfl))]; exact ⟨rfl, rfl⟩)
    (fun os started H enc _ => law_lifted (C := Try.checked) (s := Rows.fnExactMiddleSpotSpec) Try.own started (by kernel_rfl) Try.func7
      (ChangeSpec.witness6 (enc := enc) (C := Try.checked) false ⟨#[], #[.slice none 0 0], []⟩ 8 (by kernel_rfl) (by kernel_rfl) (by kernel_rfl) (by kernel_rfl))
      Try.laidOut (by kernel_rfl) rfl Try.underlying4 rfl
      (fun W base args ds p hval hA hlt => by
        have hA' : DataW.TrodAll enc Try.prog W 0 (fun _ => true) true Try.f7.params.toList args.toList ds p := hA
        have hval' : ∀ (j : Nat) t v, Try.f7.params[j]? = some t → args[j]? = some v → Value.okWide Try.prog W .any base t v := hval
        rw [Try.params7] at hA' hval'
        obtain ⟨v0, d0, rfl, rfl, h0⟩ := trodAll_one hA'
        obtain ⟨a, cap, l, rfl, ha, hm⟩ := open_SpotS (hval' 0 _ v0 rfl rfl) h0
        exact ⟨rfl, middleL0_law  a cap l hm W ha⟩))

end Go.Proofs.Ytppnomflmacpkaa
