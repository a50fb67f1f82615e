/- The exact law of SpotsWithin holds at every argument. No conditions. -/
import Derived.Test.YthmgbfnjkiehcaaWithin
import Derived.Test.YthmgbfnjkiehcaaOpenSpots
namespace Go.Proofs.Ythmgbfnjkiehcaa
open Go.ChangeShapes Go.WideShapes Go.ChangeAt Go.RowKit


theorem own_view {w : World} {base : Nat} {v : Value} {xs : List Int} (h : OwnInts w base v xs) :
    ∃ (a : Option Addr) (cap : Nat), v = .slice a xs.length cap ∧ IntsAt w a xs ∧ ∀ x, a = some x → base ≤ x.block ∧ x.block < w.heap.size := by
  rcases own_form h with ⟨rfl, rfl⟩ | ⟨g, cap, rfl, h1, h2⟩
  · exact ⟨none, 0, rfl, fun i hi => absurd hi (Nat.not_lt_zero i), fun x hx => by cases hx⟩
  · exact ⟨some ⟨g, 0, none⟩, cap, rfl, own_ints h, fun x hx => by cases hx; exact ⟨h1, h2⟩⟩
theorem ints_other {w w' : World} {a : Option Addr} {xs : List Int} {r : Option Nat} (h : IntsAt w a xs) (hg : w.grownBy w' r) (hne : ∀ x, a = some x → some x.block ≠ r) : IntsAt w' a xs := by
  intro i hi
  obtain ⟨b, off, ha, h0⟩ := h i hi
  exact ⟨b, off, ha, hg.cell h0 (fun e => hne _ ha e)⟩
theorem markIntS_any (a : Option Addr) (base cap : Nat) (xs : List Int) (hl : xs.length ≤ 1048576) {w : World} (ho : OwnInts w base (.slice a xs.length cap) xs) :
    Calls Try.prog 36 #[.slice a xs.length cap, .int .i64 1] w fun e w' => e = .returned (.int .i64 (1 + xs.length)) ∧ IntsAt w' a (ones xs.length) ∧ w.grownBy w' (a.map (·.block)) := by
  rcases own_form ho with ⟨h1, rfl⟩ | ⟨g, cap', h1, _, _⟩
  · simp only [List.length_nil, Value.slice.injEq, and_true, true_and] at h1
    obtain ⟨rfl, rfl⟩ := h1
    refine (markIntS_nil w).mono fun e w' ⟨he, hw⟩ => ⟨by rw [he]; rfl, fun i hi => by rw [ones_length] at hi; exact absurd hi (Nat.not_lt_zero i), by rw [← hw]; exact gb_refl _ _⟩
  · simp only [Value.slice.injEq, true_and] at h1
    obtain ⟨rfl, rfl⟩ := h1
    exact markIntS_own base g cap xs.length (xs.map (Value.int .i64)) hl ho

set_option maxHeartbeats 1000000 in
theorem spotsWithin_over (x y sq : Int) (a : Option Addr) (cap : Nat) (l : List (Int × Int)) (hl : 1048576 < l.length) (hm : l.length ≤ 9223372036854775807) (w : World) :
    Calls Try.prog 10 #[.agg #[.int .i64 x, .int .i64 y], .slice a l.length cap, .int .i64 sq] w fun e w' => e = .returned (.bool true) ∧ Below w.heap.size w w' := by
  go_enter Try.func10, Try.ntmps10
  go_wp2_with fail
  refine (szSpotS_over a cap l.length hl hm _).mono ?_
  rintro e w' ⟨rfl, rfl⟩
  go_wp2_with fail
  go_ret
  exact ⟨rfl, (by repeat (first | exact Below.refl _ _ | assumption | refine Below.drew ?_ | refine below_drewN ?_ _ | refine Below.alloc ?_ (by first | omega | (simp; done) | (simp; omega)) _ | refine Below.setCell ?_ (by first | omega | (simp; done) | (simp; omega)) _ | refine Below.trans ?_ (Below.mono (by assumption) (by first | omega | (simp; done) | (simp; omega)))))⟩

set_option maxRecDepth 100000 in
set_option maxHeartbeats 4000000 in
theorem spotsWithin_fits (x y sq : Int) (a : Option Addr) (cap : Nat) (l : List (Int × Int)) (hl : l.length ≤ 1048576) (w : World) (ha : SpotsAt w a l) :
    Calls Try.prog 10 #[.agg #[.int .i64 x, .int .i64 y], .slice a l.length cap, .int .i64 sq] w fun e w' => e = .returned (.bool true) ∧ Below w.heap.size w w' := by
  have hwl := Nat.le_trans (within_le x y sq l) hl
  obtain ⟨xs, hxs⟩ : ∃ xs, xs = within x y sq l := ⟨_, rfl⟩
  rw [← hxs] at hwl
  have Hxs := Lib.hid hxs
  clear hxs
  go_enter Try.func10, Try.ntmps10
  go_wp2_with fail
  refine (szSpotS_fits a cap l.length hl _).mono ?_
  rintro e w' ⟨rfl, rfl⟩
  go_wp2_with fail
  refine (toSpot_any x y _).mono ?_
  rintro e w1 ⟨rfl, hb1⟩
  have x1 : w1.cell? ⟨w.heap.size, 0, none⟩ = some (.int .i64 x) := (hb1.cell (p := ⟨w.heap.size, 0, none⟩) (by first | omega | (simp; done) | (simp; omega))).trans (by first | assumption | go_simp); have y1 : w1.cell? ⟨w.heap.size, 1, none⟩ = some (.int .i64 y) := (hb1.cell (p := ⟨w.heap.size, 1, none⟩) (by first | omega | (simp; done) | (simp; omega))).trans (by first | assumption | go_simp); have hs1 := hb1.size; (try simp at hs1); have hB1 : Below w.heap.size w w1 := (by repeat (first | exact Below.refl _ _ | assumption | refine Below.drew ?_ | refine below_drewN ?_ _ | refine Below.alloc ?_ (by first | omega | (simp; done) | (simp; omega)) _ | refine Below.setCell ?_ (by first | omega | (simp; done) | (simp; omega)) _ | refine Below.trans ?_ (Below.mono (by assumption) (by first | omega | (simp; done) | (simp; omega))))); have hz1 : w.heap.size < w1.heap.size := (by first | omega | (simp; done) | (simp; omega))
  go_wp2_with fail
  refine (toSpotS_any a cap l hl (ha.below hB1)).mono ?_
  rintro e w2 ⟨rfl, hr2, hb2⟩
  have x2 : w2.cell? ⟨w.heap.size, 0, none⟩ = some (.int .i64 x) := (hb2.cell (p := ⟨w.heap.size, 0, none⟩) (by first | omega | (simp; done) | (simp; omega))).trans (by first | assumption | go_simp); have y2 : w2.cell? ⟨w.heap.size, 1, none⟩ = some (.int .i64 y) := (hb2.cell (p := ⟨w.heap.size, 1, none⟩) (by first | omega | (simp; done) | (simp; omega))).trans (by first | assumption | go_simp); have hs2 := hb2.size; (try simp at hs2); have hB2 : Below w.heap.size w w2 := (by repeat (first | exact Below.refl _ _ | assumption | refine Below.drew ?_ | refine below_drewN ?_ _ | refine Below.alloc ?_ (by first | omega | (simp; done) | (simp; omega)) _ | refine Below.setCell ?_ (by first | omega | (simp; done) | (simp; omega)) _ | refine Below.trans ?_ (Below.mono (by assumption) (by first | omega | (simp; done) | (simp; omega))))); have hz2 : w.heap.size < w2.heap.size := (by first | omega | (simp; done) | (simp; omega))
  have s2 := row_spots hr2
  clear hr2
  go_wp2_with fail
  refine (specWithin_any x y sq _ _ l hl s2).mono ?_
  rintro e w3 ⟨v0, rfl, ho3, hb3⟩
  rw [← Hxs.out] at ho3
  have x3 : w3.cell? ⟨w.heap.size, 0, none⟩ = some (.int .i64 x) := (hb3.cell (p := ⟨w.heap.size, 0, none⟩) (by first | omega | (simp; done) | (simp; omega))).trans (by first | assumption | go_simp); have y3 : w3.cell? ⟨w.heap.size, 1, none⟩ = some (.int .i64 y) := (hb3.cell (p := ⟨w.heap.size, 1, none⟩) (by first | omega | (simp; done) | (simp; omega))).trans (by first | assumption | go_simp); have hs3 := hb3.size; (try simp at hs3); have hB3 : Below w.heap.size w w3 := (by repeat (first | exact Below.refl _ _ | assumption | refine Below.drew ?_ | refine below_drewN ?_ _ | refine Below.alloc ?_ (by first | omega | (simp; done) | (simp; omega)) _ | refine Below.setCell ?_ (by first | omega | (simp; done) | (simp; omega)) _ | refine Below.trans ?_ (Below.mono (by assumption) (by first | omega | (simp; done) | (simp; omega))))); have hz3 : w.heap.size < w3.heap.size := (by first | omega | (simp; done) | (simp; omega))
  clear s2
  obtain ⟨a0, cap0, rfl, I3, hA0⟩ := own_view ho3
  have HA0 := Lib.hid hA0
  clear ho3 hA0
  go_wp2_with fail
  refine (toSpotS_any a cap l hl (ha.below hB3)).mono ?_
  rintro e w4 ⟨rfl, hr4, hb4⟩
  have x4 : w4.cell? ⟨w.heap.size, 0, none⟩ = some (.int .i64 x) := (hb4.cell (p := ⟨w.heap.size, 0, none⟩) (by first | omega | (simp; done) | (simp; omega))).trans (by first | assumption | go_simp); have y4 : w4.cell? ⟨w.heap.size, 1, none⟩ = some (.int .i64 y) := (hb4.cell (p := ⟨w.heap.size, 1, none⟩) (by first | omega | (simp; done) | (simp; omega))).trans (by first | assumption | go_simp); have hs4 := hb4.size; (try simp at hs4); have hB4 : Below w.heap.size w w4 := (by repeat (first | exact Below.refl _ _ | assumption | refine Below.drew ?_ | refine below_drewN ?_ _ | refine Below.alloc ?_ (by first | omega | (simp; done) | (simp; omega)) _ | refine Below.setCell ?_ (by first | omega | (simp; done) | (simp; omega)) _ | refine Below.trans ?_ (Below.mono (by assumption) (by first | omega | (simp; done) | (simp; omega))))); have hz4 : w.heap.size < w4.heap.size := (by first | omega | (simp; done) | (simp; omega))
  have I4 := I3.below hb4
  clear I3
  go_wp2_with fail
  refine (toSpot_any x y _).mono ?_
  rintro e w5 ⟨rfl, hb5⟩
  have x5 : w5.cell? ⟨w.heap.size, 0, none⟩ = some (.int .i64 x) := (hb5.cell (p := ⟨w.heap.size, 0, none⟩) (by first | omega | (simp; done) | (simp; omega))).trans (by first | assumption | go_simp); have y5 : w5.cell? ⟨w.heap.size, 1, none⟩ = some (.int .i64 y) := (hb5.cell (p := ⟨w.heap.size, 1, none⟩) (by first | omega | (simp; done) | (simp; omega))).trans (by first | assumption | go_simp); have hs5 := hb5.size; (try simp at hs5); have hB5 : Below w.heap.size w w5 := (by repeat (first | exact Below.refl _ _ | assumption | refine Below.drew ?_ | refine below_drewN ?_ _ | refine Below.alloc ?_ (by first | omega | (simp; done) | (simp; omega)) _ | refine Below.setCell ?_ (by first | omega | (simp; done) | (simp; omega)) _ | refine Below.trans ?_ (Below.mono (by assumption) (by first | omega | (simp; done) | (simp; omega))))); have hz5 : w.heap.size < w5.heap.size := (by first | omega | (simp; done) | (simp; omega))
  have hx4 := hr4.lt
  have hr5 := hr4.of_block (hb5.block _ hr4.lt)
  have I5 := I4.below hb5
  clear hr4 I4
  go_wp2_with fail
  refine (within_any x y sq _ _ l hl (row_spots hr5)).mono ?_
  rintro e w6 ⟨v1, rfl, ho6, hb6⟩
  rw [← Hxs.out] at ho6
  have x6 : w6.cell? ⟨w.heap.size, 0, none⟩ = some (.int .i64 x) := (hb6.cell (p := ⟨w.heap.size, 0, none⟩) (by first | omega | (simp; done) | (simp; omega))).trans (by first | assumption | go_simp); have y6 : w6.cell? ⟨w.heap.size, 1, none⟩ = some (.int .i64 y) := (hb6.cell (p := ⟨w.heap.size, 1, none⟩) (by first | omega | (simp; done) | (simp; omega))).trans (by first | assumption | go_simp); have hs6 := hb6.size; (try simp at hs6); have hB6 : Below w.heap.size w w6 := (by repeat (first | exact Below.refl _ _ | assumption | refine Below.drew ?_ | refine below_drewN ?_ _ | refine Below.alloc ?_ (by first | omega | (simp; done) | (simp; omega)) _ | refine Below.setCell ?_ (by first | omega | (simp; done) | (simp; omega)) _ | refine Below.trans ?_ (Below.mono (by assumption) (by first | omega | (simp; done) | (simp; omega))))); have hz6 : w.heap.size < w6.heap.size := (by first | omega | (simp; done) | (simp; omega))
  have hr6 := hr5.of_block (hb6.block _ hr5.lt)
  have I6 := I5.below hb6
  clear hr5 I5
  obtain ⟨a1, cap1, rfl, J6, hA1⟩ := own_view ho6
  have HA1 := Lib.hid hA1
  clear hA1
  go_wp2_with fail
  refine (eqIntS_same a1 a0 cap1 cap0 xs hwl J6 I6).mono ?_
  rintro e w7 ⟨rfl, hb7⟩
  have x7 : w7.cell? ⟨w.heap.size, 0, none⟩ = some (.int .i64 x) := (hb7.cell (p := ⟨w.heap.size, 0, none⟩) (by first | omega | (simp; done) | (simp; omega))).trans (by first | assumption | go_simp); have y7 : w7.cell? ⟨w.heap.size, 1, none⟩ = some (.int .i64 y) := (hb7.cell (p := ⟨w.heap.size, 1, none⟩) (by first | omega | (simp; done) | (simp; omega))).trans (by first | assumption | go_simp); have hs7 := hb7.size; (try simp at hs7); have hB7 : Below w.heap.size w w7 := (by repeat (first | exact Below.refl _ _ | assumption | refine Below.drew ?_ | refine below_drewN ?_ _ | refine Below.alloc ?_ (by first | omega | (simp; done) | (simp; omega)) _ | refine Below.setCell ?_ (by first | omega | (simp; done) | (simp; omega)) _ | refine Below.trans ?_ (Below.mono (by assumption) (by first | omega | (simp; done) | (simp; omega))))); have hz7 : w.heap.size < w7.heap.size := (by first | omega | (simp; done) | (simp; omega))
  have hr7 := hr6.of_block (hb7.block _ hr6.lt)
  have I7 := I6.below hb7
  have ho7 := own_below ho6 hb7
  have J7 := J6.below hb7
  clear hr6 I6 J6 ho6
  go_wp2_with fail
  refine (toSpotS_any a cap l hl (ha.below hB7)).mono ?_
  rintro e w8 ⟨rfl, hr8, hb8⟩
  have x8 : w8.cell? ⟨w.heap.size, 0, none⟩ = some (.int .i64 x) := (hb8.cell (p := ⟨w.heap.size, 0, none⟩) (by first | omega | (simp; done) | (simp; omega))).trans (by first | assumption | go_simp); have y8 : w8.cell? ⟨w.heap.size, 1, none⟩ = some (.int .i64 y) := (hb8.cell (p := ⟨w.heap.size, 1, none⟩) (by first | omega | (simp; done) | (simp; omega))).trans (by first | assumption | go_simp); have hs8 := hb8.size; (try simp at hs8); have hB8 : Below w.heap.size w w8 := (by repeat (first | exact Below.refl _ _ | assumption | refine Below.drew ?_ | refine below_drewN ?_ _ | refine Below.alloc ?_ (by first | omega | (simp; done) | (simp; omega)) _ | refine Below.setCell ?_ (by first | omega | (simp; done) | (simp; omega)) _ | refine Below.trans ?_ (Below.mono (by assumption) (by first | omega | (simp; done) | (simp; omega))))); have hz8 : w.heap.size < w8.heap.size := (by first | omega | (simp; done) | (simp; omega))
  have hr78 := hr7.of_block (hb8.block _ hr7.lt)
  have I8 := I7.below hb8
  have ho8 := own_below ho7 hb8
  have J8 := J7.below hb8
  have s8 := row_spots hr8
  clear hr7 I7 ho7 hr8 J7
  go_wp2_with fail
  refine (eqSpotS_same _ _ _ _ l hl (row_spots hr78) s8).mono ?_
  rintro e w9 ⟨rfl, hb9⟩
  have x9 : w9.cell? ⟨w.heap.size, 0, none⟩ = some (.int .i64 x) := (hb9.cell (p := ⟨w.heap.size, 0, none⟩) (by first | omega | (simp; done) | (simp; omega))).trans (by first | assumption | go_simp); have y9 : w9.cell? ⟨w.heap.size, 1, none⟩ = some (.int .i64 y) := (hb9.cell (p := ⟨w.heap.size, 1, none⟩) (by first | omega | (simp; done) | (simp; omega))).trans (by first | assumption | go_simp); have hs9 := hb9.size; (try simp at hs9); have hB9 : Below w.heap.size w w9 := (by repeat (first | exact Below.refl _ _ | assumption | refine Below.drew ?_ | refine below_drewN ?_ _ | refine Below.alloc ?_ (by first | omega | (simp; done) | (simp; omega)) _ | refine Below.setCell ?_ (by first | omega | (simp; done) | (simp; omega)) _ | refine Below.trans ?_ (Below.mono (by assumption) (by first | omega | (simp; done) | (simp; omega))))); have hz9 : w.heap.size < w9.heap.size := (by first | omega | (simp; done) | (simp; omega))
  have hr9 := hr78.of_block (hb9.block _ hr78.lt)
  have I9 := I8.below hb9
  have ho9 := own_below ho8 hb9
  have J9 := J8.below hb9
  clear hr78 I8 ho8 s8 J8
  go_wp2_with fail
  refine (markSpotS_row _ l.length _ hl hr9).mono ?_
  rintro e w10 ⟨rfl, hg10⟩
  have hne10 : some w.heap.size ≠ some w3.heap.size := fun e => by have := Option.some.inj e; omega
  have hup10 : ∀ k, some w3.heap.size = some k → w.heap.size ≤ k := fun k e => by have := Option.some.inj e; omega
  have x10 : w10.cell? ⟨w.heap.size, 0, none⟩ = some (.int .i64 x) := hg10.cell x9 hne10; have y10 : w10.cell? ⟨w.heap.size, 1, none⟩ = some (.int .i64 y) := hg10.cell y9 hne10; have hs10 := hg10.size; have hB10 : Below w.heap.size w w10 := hB9.grown hg10 (by omega) hup10; have hz10 : w.heap.size < w10.heap.size := by omega
  have I10 := ints_other I9 hg10 (fun z hz e => by have h1 := HA0.out z hz; have h2 := Option.some.inj e; omega)
  have J10 := ints_other J9 hg10 (fun z hz e => by have h1 := HA1.out z hz; have h2 := Option.some.inj e; omega)
  have ho10 : OwnInts w10 w5.heap.size (.slice a1 xs.length cap1) xs := World.ownsRow.kept ho9 hg10 (by
    cases h : a1 with
    | none => exact .inl rfl
    | some z => exact .inr (fun e => by have h1 := HA1.out z h; have h2 := Option.some.inj e; omega))
  clear hr9 I9 J9 ho9 hne10 hup10 hg10
  go_wp2_with fail
  refine (eqIntS_same a1 a0 cap1 cap0 xs hwl J10 I10).mono ?_
  rintro e w11 ⟨rfl, hb11⟩
  have x11 : w11.cell? ⟨w.heap.size, 0, none⟩ = some (.int .i64 x) := (hb11.cell (p := ⟨w.heap.size, 0, none⟩) (by first | omega | (simp; done) | (simp; omega))).trans (by first | assumption | go_simp); have y11 : w11.cell? ⟨w.heap.size, 1, none⟩ = some (.int .i64 y) := (hb11.cell (p := ⟨w.heap.size, 1, none⟩) (by first | omega | (simp; done) | (simp; omega))).trans (by first | assumption | go_simp); have hs11 := hb11.size; (try simp at hs11); have hB11 : Below w.heap.size w w11 := (by repeat (first | exact Below.refl _ _ | assumption | refine Below.drew ?_ | refine below_drewN ?_ _ | refine Below.alloc ?_ (by first | omega | (simp; done) | (simp; omega)) _ | refine Below.setCell ?_ (by first | omega | (simp; done) | (simp; omega)) _ | refine Below.trans ?_ (Below.mono (by assumption) (by first | omega | (simp; done) | (simp; omega))))); have hz11 : w.heap.size < w11.heap.size := (by first | omega | (simp; done) | (simp; omega))
  have I11 := I10.below hb11
  have ho11 := own_below ho10 hb11
  clear I10 J10 ho10
  go_wp2_with fail
  refine (markIntS_any a1 w5.heap.size cap1 xs hwl ho11).mono ?_
  rintro e w12 ⟨rfl, M12, hg12⟩
  have hne12 : some w.heap.size ≠ a1.map (·.block) := fun e => by
    cases h : a1 with
    | none => rw [h] at e; cases e
    | some z => rw [h] at e; have h1 := HA1.out z h; have h2 : w.heap.size = z.block := Option.some.inj e; omega
  have hup12 : ∀ k, a1.map (·.block) = some k → w.heap.size ≤ k := fun k e => by
    cases h : a1 with
    | none => rw [h] at e; cases e
    | some z => rw [h] at e; have h1 := HA1.out z h; have h2 : z.block = k := Option.some.inj e; omega
  have x12 : w12.cell? ⟨w.heap.size, 0, none⟩ = some (.int .i64 x) := hg12.cell x11 hne12; have y12 : w12.cell? ⟨w.heap.size, 1, none⟩ = some (.int .i64 y) := hg12.cell y11 hne12; have hs12 := hg12.size; have hB12 : Below w.heap.size w w12 := hB11.grown hg12 (by omega) hup12; have hz12 : w.heap.size < w12.heap.size := by omega
  have I12 := ints_other I11 hg12 (fun z hz e => by
    cases h : a1 with
    | none => rw [h] at e; cases e
    | some z' => rw [h] at e; have h0 := HA0.out z hz; have h1 := HA1.out z' h; have h2 : z.block = z'.block := Option.some.inj e; omega)
  clear I11 ho11 hne12 hup12 hg12
  go_wp2_with fail
  refine (heldIntS_ones a1 cap1 xs.length hwl M12).mono ?_
  rintro e w' ⟨rfl, rfl⟩
  go_wp2_with fail
  refine (toSpot_any x y _).mono ?_
  rintro e w13 ⟨rfl, hb13⟩
  have x13 : w13.cell? ⟨w.heap.size, 0, none⟩ = some (.int .i64 x) := (hb13.cell (p := ⟨w.heap.size, 0, none⟩) (by first | omega | (simp; done) | (simp; omega))).trans (by first | assumption | go_simp); have y13 : w13.cell? ⟨w.heap.size, 1, none⟩ = some (.int .i64 y) := (hb13.cell (p := ⟨w.heap.size, 1, none⟩) (by first | omega | (simp; done) | (simp; omega))).trans (by first | assumption | go_simp); have hs13 := hb13.size; (try simp at hs13); have hB13 : Below w.heap.size w w13 := (by repeat (first | exact Below.refl _ _ | assumption | refine Below.drew ?_ | refine below_drewN ?_ _ | refine Below.alloc ?_ (by first | omega | (simp; done) | (simp; omega)) _ | refine Below.setCell ?_ (by first | omega | (simp; done) | (simp; omega)) _ | refine Below.trans ?_ (Below.mono (by assumption) (by first | omega | (simp; done) | (simp; omega))))); have hz13 : w.heap.size < w13.heap.size := (by first | omega | (simp; done) | (simp; omega))
  have I13 := I12.below hb13
  have M13 := M12.below hb13
  clear I12 M12
  go_wp2_with fail
  refine (toSpotS_any a cap l hl (ha.below hB13)).mono ?_
  rintro e w14 ⟨rfl, hr14, hb14⟩
  have x14 : w14.cell? ⟨w.heap.size, 0, none⟩ = some (.int .i64 x) := (hb14.cell (p := ⟨w.heap.size, 0, none⟩) (by first | omega | (simp; done) | (simp; omega))).trans (by first | assumption | go_simp); have y14 : w14.cell? ⟨w.heap.size, 1, none⟩ = some (.int .i64 y) := (hb14.cell (p := ⟨w.heap.size, 1, none⟩) (by first | omega | (simp; done) | (simp; omega))).trans (by first | assumption | go_simp); have hs14 := hb14.size; (try simp at hs14); have hB14 : Below w.heap.size w w14 := (by repeat (first | exact Below.refl _ _ | assumption | refine Below.drew ?_ | refine below_drewN ?_ _ | refine Below.alloc ?_ (by first | omega | (simp; done) | (simp; omega)) _ | refine Below.setCell ?_ (by first | omega | (simp; done) | (simp; omega)) _ | refine Below.trans ?_ (Below.mono (by assumption) (by first | omega | (simp; done) | (simp; omega))))); have hz14 : w.heap.size < w14.heap.size := (by first | omega | (simp; done) | (simp; omega))
  have I14 := I13.below hb14
  have M14 := M13.below hb14
  have s14 := row_spots hr14
  clear I13 M13 hr14
  go_wp2_with fail
  refine (within_any x y sq _ _ l hl s14).mono ?_
  rintro e w15 ⟨v2, rfl, ho15, hb15⟩
  rw [← Hxs.out] at ho15
  have x15 : w15.cell? ⟨w.heap.size, 0, none⟩ = some (.int .i64 x) := (hb15.cell (p := ⟨w.heap.size, 0, none⟩) (by first | omega | (simp; done) | (simp; omega))).trans (by first | assumption | go_simp); have y15 : w15.cell? ⟨w.heap.size, 1, none⟩ = some (.int .i64 y) := (hb15.cell (p := ⟨w.heap.size, 1, none⟩) (by first | omega | (simp; done) | (simp; omega))).trans (by first | assumption | go_simp); have hs15 := hb15.size; (try simp at hs15); have hB15 : Below w.heap.size w w15 := (by repeat (first | exact Below.refl _ _ | assumption | refine Below.drew ?_ | refine below_drewN ?_ _ | refine Below.alloc ?_ (by first | omega | (simp; done) | (simp; omega)) _ | refine Below.setCell ?_ (by first | omega | (simp; done) | (simp; omega)) _ | refine Below.trans ?_ (Below.mono (by assumption) (by first | omega | (simp; done) | (simp; omega))))); have hz15 : w.heap.size < w15.heap.size := (by first | omega | (simp; done) | (simp; omega))
  have I15 := I14.below hb15
  have M15 := M14.below hb15
  clear I14 M14 s14
  obtain ⟨a2, cap2, rfl, J15, _⟩ := own_view ho15
  clear ho15
  go_wp2_with fail
  refine (eqIntS_same a2 a0 cap2 cap0 xs hwl J15 I15).mono ?_
  rintro e w16 ⟨rfl, hb16⟩
  have x16 : w16.cell? ⟨w.heap.size, 0, none⟩ = some (.int .i64 x) := (hb16.cell (p := ⟨w.heap.size, 0, none⟩) (by first | omega | (simp; done) | (simp; omega))).trans (by first | assumption | go_simp); have y16 : w16.cell? ⟨w.heap.size, 1, none⟩ = some (.int .i64 y) := (hb16.cell (p := ⟨w.heap.size, 1, none⟩) (by first | omega | (simp; done) | (simp; omega))).trans (by first | assumption | go_simp); have hs16 := hb16.size; (try simp at hs16); have hB16 : Below w.heap.size w w16 := (by repeat (first | exact Below.refl _ _ | assumption | refine Below.drew ?_ | refine below_drewN ?_ _ | refine Below.alloc ?_ (by first | omega | (simp; done) | (simp; omega)) _ | refine Below.setCell ?_ (by first | omega | (simp; done) | (simp; omega)) _ | refine Below.trans ?_ (Below.mono (by assumption) (by first | omega | (simp; done) | (simp; omega))))); have hz16 : w.heap.size < w16.heap.size := (by first | omega | (simp; done) | (simp; omega))
  have M16 := M15.below hb16
  clear I15 M15 J15
  go_wp2_with fail
  refine (heldIntS_ones a1 cap1 xs.length hwl M16).mono ?_
  rintro e w' ⟨rfl, rfl⟩
  go_wp2_with fail
  go_ret
  exact ⟨rfl, hB16⟩

theorem spotsWithin_law (x y sq : Int) (a : Option Addr) (cap : Nat) (l : List (Int × Int)) (hm : l.length ≤ 9223372036854775807) (w : World) (ha : SpotsAt w a l) :
    Calls Try.prog 10 #[.agg #[.int .i64 x, .int .i64 y], .slice a l.length cap, .int .i64 sq] w fun e w' => e = .returned (.bool true) ∧ Below w.heap.size w w' := by
  by_cases hl : l.length ≤ 1048576
  · exact spotsWithin_fits x y sq a cap l hl w ha
  · exact spotsWithin_over x y sq a cap l (by omega) hm w

set_option maxRecDepth 100000 in
theorem spotsWithin_holds : Rows.FnExactSpotsWithinSaid :=
  OpenClaim.holds_of_wide 10 Try.f10 rfl rfl rfl rfl rfl rfl rfl ⟨rfl, rfl, rfl, rfl, rfl⟩ rfl rfl rfl rfl rfl (by kernel_rfl) Try.func10 (by kernel_rfl)
    (of_decide_eq_true (by kernel_rfl)) (by unfold Func.isWrapper; rw [if_neg (of_decide_eq_false (by kernel_rfl))]; exact ⟨rfl, rfl⟩)
    (fun os started H enc _ => law_lifted (C := Try.checked) (s := Rows.fnExactSpotsWithinSpec) Try.own started (by kernel_rfl) Try.func10
      (ChangeSpec.witness6 (enc := enc) (C := Try.checked) false ⟨#[], #[.agg #[.int .i64 0, .int .i64 0], .slice none 0 0, .int .i64 0], []⟩ 8 (by kernel_rfl) (by kernel_rfl) (by kernel_rfl) (by kernel_rfl))
      Try.laidOut (by kernel_rfl) rfl Try.underlying4 rfl
      (fun W base args ds p hval hA hlt => by
        have hA' : DataW.TrodAll enc Try.prog W 0 (fun _ => true) true Try.f10.params.toList args.toList ds p := hA
        have hval' : ∀ (j : Nat) t v, Try.f10.params[j]? = some t → args[j]? = some v → Value.okWide Try.prog W .any base t v := hval
        rw [Try.params10] at hA' hval'
        obtain ⟨v0, v1, v2, d0, d1, d2, p0, p1, p2, rfl, rfl, rfl, h0, h1, h2⟩ := trodAll_three hA'
        obtain ⟨x, y, rfl, _, _⟩ := open_spot (hval' 0 _ v0 rfl rfl) h0
        obtain ⟨a, cap, l, rfl, ha, hm⟩ := open_spots (hval' 1 _ v1 rfl rfl) h1
        obtain ⟨sq, rfl, rfl, rfl, _⟩ := open_int Try.underlying3 (hval' 2 _ v2 rfl rfl) h2
        exact ⟨rfl, spotsWithin_law x y sq a cap l hm W ha⟩))

end Go.Proofs.Ythmgbfnjkiehcaa
