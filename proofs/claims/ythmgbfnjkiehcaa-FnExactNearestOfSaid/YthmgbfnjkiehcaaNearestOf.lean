/- The exact law of NearestOf holds at every argument. No conditions. -/
import Derived.Test.YthmgbfnjkiehcaaNear
import Derived.Test.YthmgbfnjkiehcaaOpenSpots
namespace Go.Proofs.Ythmgbfnjkiehcaa
open Go.ChangeShapes Go.WideShapes Go.ChangeAt Go.RowKit


set_option maxHeartbeats 1000000 in
theorem nearestOf_over (x y : Int) (a : Option Addr) (cap : Nat) (l : List (Int × Int)) (hl : 1048576 < l.length) (hm : l.length ≤ 9223372036854775807) (w : World) :
    Calls Try.prog 9 #[.agg #[.int .i64 x, .int .i64 y], .slice a l.length cap] w fun e w' => e = .returned (.bool true) ∧ Below w.heap.size w w' := by
  go_enter Try.func9, Try.ntmps9
  go_wp2_with fail
  refine (szSpotS_over a cap l.length hl hm _).mono ?_
  rintro e w' ⟨rfl, rfl⟩
  go_wp2_with fail
  go_ret
  exact ⟨rfl, (by repeat (first | exact Below.refl _ _ | assumption | refine Below.drew ?_ | refine below_drewN ?_ _ | refine Below.alloc ?_ (by first | omega | (simp; done) | (simp; omega)) _ | refine Below.setCell ?_ (by first | omega | (simp; done) | (simp; omega)) _ | refine Below.trans ?_ (Below.mono (by assumption) (by first | omega | (simp; done) | (simp; omega)))))⟩

set_option maxHeartbeats 1000000 in
theorem nearestOf_fits (x y : Int) (a : Option Addr) (cap : Nat) (l : List (Int × Int)) (hl : l.length ≤ 1048576) (w : World) (ha : SpotsAt w a l) :
    Calls Try.prog 9 #[.agg #[.int .i64 x, .int .i64 y], .slice a l.length cap] w fun e w' => e = .returned (.bool true) ∧ Below w.heap.size w w' := by
  go_enter Try.func9, Try.ntmps9
  go_wp2_with fail
  refine (szSpotS_fits a cap l.length hl _).mono ?_
  rintro e w' ⟨rfl, rfl⟩
  go_wp2_with fail
  refine (toSpot_any x y _).mono ?_
  rintro e w1 ⟨rfl, hb1⟩
  have x1 : w1.cell? ⟨w.heap.size, 0, none⟩ = some (.int .i64 x) := (hb1.cell (p := ⟨w.heap.size, 0, none⟩) (by first | omega | (simp; done) | (simp; omega))).trans (by first | assumption | go_simp); have y1 : w1.cell? ⟨w.heap.size, 1, none⟩ = some (.int .i64 y) := (hb1.cell (p := ⟨w.heap.size, 1, none⟩) (by first | omega | (simp; done) | (simp; omega))).trans (by first | assumption | go_simp); have hs1 := hb1.size; (try simp at hs1); have hB1 : Below w.heap.size w w1 := (by repeat (first | exact Below.refl _ _ | assumption | refine Below.drew ?_ | refine below_drewN ?_ _ | refine Below.alloc ?_ (by first | omega | (simp; done) | (simp; omega)) _ | refine Below.setCell ?_ (by first | omega | (simp; done) | (simp; omega)) _ | refine Below.trans ?_ (Below.mono (by assumption) (by first | omega | (simp; done) | (simp; omega))))); have hz1 : w.heap.size < w1.heap.size := (by first | omega | (simp; done) | (simp; omega))
  go_wp2_with fail
  refine (toSpotS_any a cap l hl (ha.below hB1)).mono ?_
  rintro e w2 ⟨rfl, hr2, hb2⟩
  have x2 : w2.cell? ⟨w.heap.size, 0, none⟩ = some (.int .i64 x) := (hb2.cell (p := ⟨w.heap.size, 0, none⟩) (by first | omega | (simp; done) | (simp; omega))).trans (by first | assumption | go_simp); have y2 : w2.cell? ⟨w.heap.size, 1, none⟩ = some (.int .i64 y) := (hb2.cell (p := ⟨w.heap.size, 1, none⟩) (by first | omega | (simp; done) | (simp; omega))).trans (by first | assumption | go_simp); have hs2 := hb2.size; (try simp at hs2); have hB2 : Below w.heap.size w w2 := (by repeat (first | exact Below.refl _ _ | assumption | refine Below.drew ?_ | refine below_drewN ?_ _ | refine Below.alloc ?_ (by first | omega | (simp; done) | (simp; omega)) _ | refine Below.setCell ?_ (by first | omega | (simp; done) | (simp; omega)) _ | refine Below.trans ?_ (Below.mono (by assumption) (by first | omega | (simp; done) | (simp; omega))))); have hz2 : w.heap.size < w2.heap.size := (by first | omega | (simp; done) | (simp; omega))
  have s2 := row_spots hr2
  clear hr2
  go_wp2_with fail
  refine (specNearest_any x y _ _ l hl s2).mono ?_
  rintro e w3 ⟨rfl, hb3⟩
  have x3 : w3.cell? ⟨w.heap.size, 0, none⟩ = some (.int .i64 x) := (hb3.cell (p := ⟨w.heap.size, 0, none⟩) (by first | omega | (simp; done) | (simp; omega))).trans (by first | assumption | go_simp); have y3 : w3.cell? ⟨w.heap.size, 1, none⟩ = some (.int .i64 y) := (hb3.cell (p := ⟨w.heap.size, 1, none⟩) (by first | omega | (simp; done) | (simp; omega))).trans (by first | assumption | go_simp); have hs3 := hb3.size; (try simp at hs3); have hB3 : Below w.heap.size w w3 := (by repeat (first | exact Below.refl _ _ | assumption | refine Below.drew ?_ | refine below_drewN ?_ _ | refine Below.alloc ?_ (by first | omega | (simp; done) | (simp; omega)) _ | refine Below.setCell ?_ (by first | omega | (simp; done) | (simp; omega)) _ | refine Below.trans ?_ (Below.mono (by assumption) (by first | omega | (simp; done) | (simp; omega))))); have hz3 : w.heap.size < w3.heap.size := (by first | omega | (simp; done) | (simp; omega))
  clear s2
  go_wp2_with fail
  refine (toSpotS_any a cap l hl (ha.below hB3)).mono ?_
  rintro e w4 ⟨rfl, hr4, hb4⟩
  have x4 : w4.cell? ⟨w.heap.size, 0, none⟩ = some (.int .i64 x) := (hb4.cell (p := ⟨w.heap.size, 0, none⟩) (by first | omega | (simp; done) | (simp; omega))).trans (by first | assumption | go_simp); have y4 : w4.cell? ⟨w.heap.size, 1, none⟩ = some (.int .i64 y) := (hb4.cell (p := ⟨w.heap.size, 1, none⟩) (by first | omega | (simp; done) | (simp; omega))).trans (by first | assumption | go_simp); have hs4 := hb4.size; (try simp at hs4); have hB4 : Below w.heap.size w w4 := (by repeat (first | exact Below.refl _ _ | assumption | refine Below.drew ?_ | refine below_drewN ?_ _ | refine Below.alloc ?_ (by first | omega | (simp; done) | (simp; omega)) _ | refine Below.setCell ?_ (by first | omega | (simp; done) | (simp; omega)) _ | refine Below.trans ?_ (Below.mono (by assumption) (by first | omega | (simp; done) | (simp; omega))))); have hz4 : w.heap.size < w4.heap.size := (by first | omega | (simp; done) | (simp; omega))
  have s4 := row_spots hr4
  clear hr4
  go_wp2_with fail
  refine (toSpot_any x y _).mono ?_
  rintro e w5 ⟨rfl, hb5⟩
  have x5 : w5.cell? ⟨w.heap.size, 0, none⟩ = some (.int .i64 x) := (hb5.cell (p := ⟨w.heap.size, 0, none⟩) (by first | omega | (simp; done) | (simp; omega))).trans (by first | assumption | go_simp); have y5 : w5.cell? ⟨w.heap.size, 1, none⟩ = some (.int .i64 y) := (hb5.cell (p := ⟨w.heap.size, 1, none⟩) (by first | omega | (simp; done) | (simp; omega))).trans (by first | assumption | go_simp); have hs5 := hb5.size; (try simp at hs5); have hB5 : Below w.heap.size w w5 := (by repeat (first | exact Below.refl _ _ | assumption | refine Below.drew ?_ | refine below_drewN ?_ _ | refine Below.alloc ?_ (by first | omega | (simp; done) | (simp; omega)) _ | refine Below.setCell ?_ (by first | omega | (simp; done) | (simp; omega)) _ | refine Below.trans ?_ (Below.mono (by assumption) (by first | omega | (simp; done) | (simp; omega))))); have hz5 : w.heap.size < w5.heap.size := (by first | omega | (simp; done) | (simp; omega))
  have s5 := s4.below hb5
  clear s4
  go_wp2_with fail
  refine (nearest_any x y _ _ l hl s5).mono ?_
  rintro e w6 ⟨rfl, hb6⟩
  have x6 : w6.cell? ⟨w.heap.size, 0, none⟩ = some (.int .i64 x) := (hb6.cell (p := ⟨w.heap.size, 0, none⟩) (by first | omega | (simp; done) | (simp; omega))).trans (by first | assumption | go_simp); have y6 : w6.cell? ⟨w.heap.size, 1, none⟩ = some (.int .i64 y) := (hb6.cell (p := ⟨w.heap.size, 1, none⟩) (by first | omega | (simp; done) | (simp; omega))).trans (by first | assumption | go_simp); have hs6 := hb6.size; (try simp at hs6); have hB6 : Below w.heap.size w w6 := (by repeat (first | exact Below.refl _ _ | assumption | refine Below.drew ?_ | refine below_drewN ?_ _ | refine Below.alloc ?_ (by first | omega | (simp; done) | (simp; omega)) _ | refine Below.setCell ?_ (by first | omega | (simp; done) | (simp; omega)) _ | refine Below.trans ?_ (Below.mono (by assumption) (by first | omega | (simp; done) | (simp; omega))))); have hz6 : w.heap.size < w6.heap.size := (by first | omega | (simp; done) | (simp; omega))
  have s6 := s5.below hb6
  clear s5
  go_wp2_with fail
  refine (toSpotS_any a cap l hl (ha.below hB6)).mono ?_
  rintro e w7 ⟨rfl, hr7, hb7⟩
  have x7 : w7.cell? ⟨w.heap.size, 0, none⟩ = some (.int .i64 x) := (hb7.cell (p := ⟨w.heap.size, 0, none⟩) (by first | omega | (simp; done) | (simp; omega))).trans (by first | assumption | go_simp); have y7 : w7.cell? ⟨w.heap.size, 1, none⟩ = some (.int .i64 y) := (hb7.cell (p := ⟨w.heap.size, 1, none⟩) (by first | omega | (simp; done) | (simp; omega))).trans (by first | assumption | go_simp); have hs7 := hb7.size; (try simp at hs7); have hB7 : Below w.heap.size w w7 := (by repeat (first | exact Below.refl _ _ | assumption | refine Below.drew ?_ | refine below_drewN ?_ _ | refine Below.alloc ?_ (by first | omega | (simp; done) | (simp; omega)) _ | refine Below.setCell ?_ (by first | omega | (simp; done) | (simp; omega)) _ | refine Below.trans ?_ (Below.mono (by assumption) (by first | omega | (simp; done) | (simp; omega))))); have hz7 : w.heap.size < w7.heap.size := (by first | omega | (simp; done) | (simp; omega))
  have s7 := row_spots hr7
  have t7 := s6.below hb7
  clear hr7 s6
  go_wp2_with fail
  refine (eqSpotS_same _ _ _ _ l hl t7 s7).mono ?_
  rintro e w8 ⟨rfl, hb8⟩
  go_wp2_with fail
  go_ret
  exact ⟨rfl, (by repeat (first | exact Below.refl _ _ | assumption | refine Below.drew ?_ | refine below_drewN ?_ _ | refine Below.alloc ?_ (by first | omega | (simp; done) | (simp; omega)) _ | refine Below.setCell ?_ (by first | omega | (simp; done) | (simp; omega)) _ | refine Below.trans ?_ (Below.mono (by assumption) (by first | omega | (simp; done) | (simp; omega)))))⟩

theorem nearestOf_law (x y : Int) (a : Option Addr) (cap : Nat) (l : List (Int × Int)) (hm : l.length ≤ 9223372036854775807) (w : World) (ha : SpotsAt w a l) :
    Calls Try.prog 9 #[.agg #[.int .i64 x, .int .i64 y], .slice a l.length cap] w fun e w' => e = .returned (.bool true) ∧ Below w.heap.size w w' := by
  by_cases hl : l.length ≤ 1048576
  · exact nearestOf_fits x y a cap l hl w ha
  · exact nearestOf_over x y a cap l (by omega) hm w

set_option maxRecDepth 100000 in
theorem nearestOf_holds : Rows.FnExactNearestOfSaid :=
  OpenClaim.holds_of_wide 9 Try.f9 rfl rfl rfl rfl rfl rfl rfl ⟨rfl, rfl, rfl, rfl, rfl⟩ rfl rfl rfl rfl rfl (by kernel_rfl) Try.func9 (by kernel_rfl)
    (of_decide_eq_true (by kernel_rfl)) (by unfold Func.isWrapper; rw [if_neg (of_decide_eq_false (by kernel_rfl))]; exact ⟨rfl, rfl⟩)
    (fun os started H enc _ => law_lifted (C := Try.checked) (s := Rows.fnExactNearestOfSpec) Try.own started (by kernel_rfl) Try.func9
      (ChangeSpec.witness6 (enc := enc) (C := Try.checked) false ⟨#[], #[.agg #[.int .i64 0, .int .i64 0], .slice none 0 0], []⟩ 8 (by kernel_rfl) (by kernel_rfl) (by kernel_rfl) (by kernel_rfl))
      Try.laidOut (by kernel_rfl) rfl Try.underlying4 rfl
      (fun W base args ds p hval hA hlt => by
        have hA' : DataW.TrodAll enc Try.prog W 0 (fun _ => true) true Try.f9.params.toList args.toList ds p := hA
        have hval' : ∀ (j : Nat) t v, Try.f9.params[j]? = some t → args[j]? = some v → Value.okWide Try.prog W .any base t v := hval
        rw [Try.params9] at hA' hval'
        obtain ⟨v0, v1, d0, d1, p0, p1, rfl, rfl, rfl, h0, h1⟩ := trodAll_two hA'
        obtain ⟨x, y, rfl, _, _⟩ := open_spot (hval' 0 _ v0 rfl rfl) h0
        obtain ⟨a, cap, l, rfl, ha, hm⟩ := open_spots (hval' 1 _ v1 rfl rfl) h1
        exact ⟨rfl, nearestOf_law x y a cap l hm W ha⟩))

end Go.Proofs.Ythmgbfnjkiehcaa
