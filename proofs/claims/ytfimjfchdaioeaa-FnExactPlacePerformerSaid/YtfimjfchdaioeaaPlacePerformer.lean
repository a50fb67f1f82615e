/- The exact law of PlacePerformer holds at every argument. No conditions. -/
import Derived.Test.YtfimjfchdaioeaaChPlace
import Derived.Test.YtfimjfchdaioeaaOpenSt
import Derived.Test.YtfimjfchdaioeaaEqSpot
import Derived.Test.YtfimjfchdaioeaaMkSpot
import Derived.Test.YtfimjfchdaioeaaOpenSpot
import Derived.Deep.RegionHeld3
import Derived.Deep.DeepCutAuto
import Derived.Deep.DrawnRows
namespace Go.Proofs.Ytfimjfchdaioeaa
open Go.ChangeShapes Go.WideShapes Go.ChangeAt Go.RowKit


attribute [local go_sem ↓] Go.wp_at_zero Go.wp_at_succ

set_option maxHeartbeats 6000000 in
theorem placL0_over (i x y : Int) (a : Option Addr) (cap : Nat) (l : List (Int × Int)) (hl : 1048576 < l.length) (hm : l.length ≤ 9223372036854775807) (w : World) :
    Calls Try.prog 9 #[.slice a l.length cap, .int .i64 i, .agg #[.int .i64 x, .int .i64 y]] w fun e w' => e = .returned (.bool true) ∧ Below w.heap.size w w' := by
  go_enter Try.func9, Try.ntmps9
  go_wp2_with fail
  refine (szSpotS_over a cap l.length hl hm _).mono ?_
  rintro e w' ⟨rfl, rfl⟩
  go_wp2_with fail
  go_ret
  exact ⟨rfl, (by repeat (first | exact Below.refl _ _ | assumption | refine Below.drew ?_ | refine below_drewN ?_ _ | refine Below.alloc ?_ (by first | omega | (simp; done) | (simp; omega)) _ | refine Below.setCell ?_ (by first | omega | (simp; done) | (simp; omega)) _ | refine Below.trans ?_ (Below.mono (by assumption) (by first | omega | (simp; done) | (simp; omega)))))⟩

set_option maxRecDepth 100000 in
set_option maxHeartbeats 6000000 in
theorem placL0_fits (i x y : Int) (a : Option Addr) (cap : Nat) (l : List (Int × Int)) (hl : l.length ≤ 1048576) (w : World) (ha : PairsAt w a l) :
    Calls Try.prog 9 #[.slice a l.length cap, .int .i64 i, .agg #[.int .i64 x, .int .i64 y]] w fun e w' => e = .returned (.bool true) ∧ Below w.heap.size w w' := by
  have hxl : (plL l i x y).length ≤ 1048576 := Nat.le_trans (plL_length _ _ _ _) (by omega)
  have HSP := Lib.hid (fun (b : Option Addr) (W : World) (s : PairsAt W b l) => placeS_any b l.length l hl (Nat.le_refl _) s i x y)
  have HIM := Lib.hid (fun (b : Option Addr) (W : World) (s : PairsAt W b l) => placeI_any b l.length l hl s i x y)
  have HT := Lib.hid (fun (W : World) (hb : Below w.heap.size w W) => toSpotS_any a cap l hl (ha.below hb))
  obtain ⟨xs, hxs⟩ : ∃ xs, xs = plL l i x y := ⟨_, rfl⟩
  obtain ⟨ok, hok⟩ : ∃ ok, ok = plB l i x y := ⟨_, rfl⟩
  rw [← hxs] at hxl
  simp only [← hxs, ← hok] at HSP HIM
  clear hxs hok
  go_enter Try.func9, Try.ntmps9
  go_wp2_with fail
  refine (szSpotS_fits a cap l.length hl _).mono ?_
  rintro e w' ⟨rfl, rfl⟩
  go_upto_region 5 with fail
  go_cut [8, 9] (fun sa sb wx => (OwnPairs 41 wx (w.heap.size + 1) sa xs ∧ sb = .bool ok ∧ Below w.heap.size w wx ∧ w.heap.size + 1 ≤ wx.heap.size) ∧ wx.cell? ⟨w.heap.size, 0, none⟩ = some (.int .i64 x) ∧ wx.cell? ⟨w.heap.size, 1, none⟩ = some (.int .i64 y))
  case first =>
    go_region_held3 (fun w' => w'.cell? ⟨w.heap.size, 0, none⟩ = some (.int .i64 x) ∧ w'.cell? ⟨w.heap.size, 1, none⟩ = some (.int .i64 y)) (refine ⟨?_, ?_⟩ <;> first | (go_keep; done) | (simp [*, World.cell?_alloc_past, World.cell?_setCell_far]; done) | (simp [*, World.cell?_alloc_past, World.cell?_alloc_at, World.cell?_setCell_far]; done) | (go_simp; done))
      (first | (go_at_call 16; ((with_reducible refine (HT.out _ (by repeat (first | exact Below.refl _ _ | assumption | refine Below.drew ?_ | refine below_drewN ?_ _ | refine Below.alloc ?_ (by first | omega | (simp; done) | (simp; omega)) _ | refine Below.setCell ?_ (by first | omega | (simp; done) | (simp; omega)) _ | refine Below.trans ?_ (Below.mono (by assumption) (by first | omega | (simp; done) | (simp; omega)))))).mono ?_); rintro e wl ⟨rfl, hrl, hbl⟩; have hsl := hbl.size; (try simp at hsl); have hll := hrl.lt; have sl := row_pairs hrl; (try simp at sl); clear hrl; have ql0 : wl.cell? ⟨w.heap.size, 0, none⟩ = _ := hbl.cell (p := ⟨w.heap.size, 0, none⟩) (by first | omega | (simp; done) | (simp; omega)); have ql1 : wl.cell? ⟨w.heap.size, 1, none⟩ = _ := hbl.cell (p := ⟨w.heap.size, 1, none⟩) (by first | omega | (simp; done) | (simp; omega)))) | (go_at_call 32; ((with_reducible refine (toSpot_any _ _ _).mono ?_); rintro e wt ⟨rfl, hbt⟩; have hst := hbt.size; (try simp at hst); (first | replace sl := sl.below hbt | skip); have qt0 : wt.cell? ⟨w.heap.size, 0, none⟩ = _ := hbt.cell (p := ⟨w.heap.size, 0, none⟩) (by first | omega | (simp; done) | (simp; omega)); have qt1 : wt.cell? ⟨w.heap.size, 1, none⟩ = _ := hbt.cell (p := ⟨w.heap.size, 1, none⟩) (by first | omega | (simp; done) | (simp; omega)))) | (go_at_call 31; ((with_reducible refine (HSP.out _ _ sl).mono ?_); rintro e w3 ⟨v3, rfl, ho3, hb3⟩; clear sl; have hs3 := hb3.size; (try simp at hs3); have qc0 : w3.cell? ⟨w.heap.size, 0, none⟩ = _ := hb3.cell (p := ⟨w.heap.size, 0, none⟩) (by first | omega | (simp; done) | (simp; omega)); have qc1 : w3.cell? ⟨w.heap.size, 1, none⟩ = _ := hb3.cell (p := ⟨w.heap.size, 1, none⟩) (by first | omega | (simp; done) | (simp; omega)))))
    all_goals
      obtain ⟨f0, f1⟩ : w3.cell? ⟨w.heap.size, 0, none⟩ = some (.int .i64 x) ∧ w3.cell? ⟨w.heap.size, 1, none⟩ = some (.int .i64 y) := by assumption
      have hsz3 : w.heap.size + 1 ≤ w3.heap.size := (by first | omega | (simp; done) | (simp; omega))
      go_wp2_with fail
      go_meet
      refine ⟨⟨own_mono ho3 (by first | omega | (simp; done) | (simp; omega)), rfl, (by repeat (first | exact Below.refl _ _ | assumption | refine Below.drew ?_ | refine below_drewN ?_ _ | refine Below.alloc ?_ (by first | omega | (simp; done) | (simp; omega)) _ | refine Below.setCell ?_ (by first | omega | (simp; done) | (simp; omega)) _ | refine Below.trans ?_ (Below.mono (by assumption) (by first | omega | (simp; done) | (simp; omega))))), hsz3⟩, f0, f1⟩
  case rest =>
    obtain ⟨⟨ho3, rfl, hB3, hz3⟩, c0, c1⟩ := hcut
    obtain ⟨w3, rfl⟩ : ∃ x, x = wc := ⟨_, rfl⟩
    obtain ⟨a0, cap0, rfl, I3, hA0⟩ := own_viewP ho3
    have HA0 := Lib.hid hA0
    have hs3 := hB3.size
    clear ho3 hA0
    go_wp2_with fail
    refine (toSpotS_any a cap l hl (ha.below hB3)).mono ?_
    rintro e w4 ⟨rfl, hr4, hb4⟩
    have hs4 := hb4.size; (try simp at hs4); have hB4 : Below w.heap.size w w4 := (by repeat (first | exact Below.refl _ _ | assumption | refine Below.drew ?_ | refine below_drewN ?_ _ | refine Below.alloc ?_ (by first | omega | (simp; done) | (simp; omega)) _ | refine Below.setCell ?_ (by first | omega | (simp; done) | (simp; omega)) _ | refine Below.trans ?_ (Below.mono (by assumption) (by first | omega | (simp; done) | (simp; omega)))))
    replace c0 := (hb4.cell (p := ⟨w.heap.size, 0, none⟩) (by first | omega | (simp; done) | (simp; omega))).trans c0; replace c1 := (hb4.cell (p := ⟨w.heap.size, 1, none⟩) (by first | omega | (simp; done) | (simp; omega))).trans c1
    have hr4l := hr4.lt
    have sl := row_pairs hr4
    have I4 := I3.below hb4
    clear I3
    go_wp2_with (first | (go_at_call 32; ((with_reducible refine (toSpot_any _ _ _).mono ?_); rintro e w5 ⟨rfl, hb5⟩; have hs5 := hb5.size; (try simp at hs5); have hB5 : Below w.heap.size w w5 := (by repeat (first | exact Below.refl _ _ | assumption | refine Below.drew ?_ | refine below_drewN ?_ _ | refine Below.alloc ?_ (by first | omega | (simp; done) | (simp; omega)) _ | refine Below.setCell ?_ (by first | omega | (simp; done) | (simp; omega)) _ | refine Below.trans ?_ (Below.mono (by assumption) (by first | omega | (simp; done) | (simp; omega))))); replace sl := sl.below hb5; replace I4 := I4.below hb5; replace hr4 := hr4.of_block (hb5.block _ hr4.lt); replace c0 := (hb5.cell (p := ⟨w.heap.size, 0, none⟩) (by first | omega | (simp; done) | (simp; omega))).trans c0; replace c1 := (hb5.cell (p := ⟨w.heap.size, 1, none⟩) (by first | omega | (simp; done) | (simp; omega))).trans c1)) | (go_at_call 33; ((with_reducible refine (HIM.out _ _ sl).mono ?_); rintro e w6 ⟨v1, rfl, ho6, hb6⟩; have hs6 := hb6.size; (try simp at hs6); have hB6 : Below w.heap.size w w6 := (by repeat (first | exact Below.refl _ _ | assumption | refine Below.drew ?_ | refine below_drewN ?_ _ | refine Below.alloc ?_ (by first | omega | (simp; done) | (simp; omega)) _ | refine Below.setCell ?_ (by first | omega | (simp; done) | (simp; omega)) _ | refine Below.trans ?_ (Below.mono (by assumption) (by first | omega | (simp; done) | (simp; omega))))); replace c0 := (hb6.cell (p := ⟨w.heap.size, 0, none⟩) (by first | omega | (simp; done) | (simp; omega))).trans c0; replace c1 := (hb6.cell (p := ⟨w.heap.size, 1, none⟩) (by first | omega | (simp; done) | (simp; omega))).trans c1; clear sl; have hr6 := hr4.of_block (hb6.block _ hr4.lt); have I6 := I4.below hb6; clear hr4 I4; obtain ⟨a1, cap1, rfl, J6, hA1⟩ := own_viewP ho6; have HA1 := Lib.hid hA1; clear hA1)))
    refine (eqSpotS_same a1 a0 cap1 cap0 xs hxl J6 I6).mono ?_
    rintro e w7 ⟨rfl, hb7⟩
    have hs7 := hb7.size; (try simp at hs7); have hB7 : Below w.heap.size w w7 := (by repeat (first | exact Below.refl _ _ | assumption | refine Below.drew ?_ | refine below_drewN ?_ _ | refine Below.alloc ?_ (by first | omega | (simp; done) | (simp; omega)) _ | refine Below.setCell ?_ (by first | omega | (simp; done) | (simp; omega)) _ | refine Below.trans ?_ (Below.mono (by assumption) (by first | omega | (simp; done) | (simp; omega)))))
    replace c0 := (hb7.cell (p := ⟨w.heap.size, 0, none⟩) (by first | omega | (simp; done) | (simp; omega))).trans c0; replace c1 := (hb7.cell (p := ⟨w.heap.size, 1, none⟩) (by first | omega | (simp; done) | (simp; omega))).trans c1
    have hr7 := hr6.of_block (hb7.block _ hr6.lt)
    have I7 := I6.below hb7
    have ho7 := own_below ho6 hb7
    have J7 := J6.below hb7
    clear hr6 I6 J6 ho6
    cases ok
    case false =>
      go_wp2_with fail
      refine (toSpotS_any a cap l hl (ha.below hB7)).mono ?_
      rintro e w8 ⟨rfl, hr8, hb8⟩
      have hs8 := hb8.size; (try simp at hs8); have hB8 : Below w.heap.size w w8 := (by repeat (first | exact Below.refl _ _ | assumption | refine Below.drew ?_ | refine below_drewN ?_ _ | refine Below.alloc ?_ (by first | omega | (simp; done) | (simp; omega)) _ | refine Below.setCell ?_ (by first | omega | (simp; done) | (simp; omega)) _ | refine Below.trans ?_ (Below.mono (by assumption) (by first | omega | (simp; done) | (simp; omega)))))
      replace c0 := (hb8.cell (p := ⟨w.heap.size, 0, none⟩) (by first | omega | (simp; done) | (simp; omega))).trans c0; replace c1 := (hb8.cell (p := ⟨w.heap.size, 1, none⟩) (by first | omega | (simp; done) | (simp; omega))).trans c1
      have hr78 := hr7.of_block (hb8.block _ hr7.lt)
      have I8 := I7.below hb8
      have ho8 := own_below ho7 hb8
      have J8 := J7.below hb8
      have s8 := row_pairs hr8
      clear hr7 I7 ho7 hr8 J7
      go_wp2_with fail
      refine (eqSpotS_same _ _ _ _ l hl (row_pairs hr78) s8).mono ?_
      rintro e w9 ⟨rfl, hb9⟩
      have hs9 := hb9.size; (try simp at hs9); have hB9 : Below w.heap.size w w9 := (by repeat (first | exact Below.refl _ _ | assumption | refine Below.drew ?_ | refine below_drewN ?_ _ | refine Below.alloc ?_ (by first | omega | (simp; done) | (simp; omega)) _ | refine Below.setCell ?_ (by first | omega | (simp; done) | (simp; omega)) _ | refine Below.trans ?_ (Below.mono (by assumption) (by first | omega | (simp; done) | (simp; omega)))))
      replace c0 := (hb9.cell (p := ⟨w.heap.size, 0, none⟩) (by first | omega | (simp; done) | (simp; omega))).trans c0; replace c1 := (hb9.cell (p := ⟨w.heap.size, 1, none⟩) (by first | omega | (simp; done) | (simp; omega))).trans c1
      have hr9 := hr78.of_block (hb9.block _ hr78.lt)
      have I9 := I8.below hb9
      have ho9 := own_below ho8 hb9
      have J9 := J8.below hb9
      clear hr78 I8 ho8 s8 J8
      go_wp2_with fail
      refine (markSpotS_row _ l.length _ _ hl hr9).mono ?_
      rintro e w10 ⟨rfl, hg10⟩
      have hup10 : ∀ k, some w3.heap.size = some k → w.heap.size ≤ k := fun k e => by have := Option.some.inj e; omega
      have hs10 := hg10.size; have hB10 : Below w.heap.size w w10 := hB9.grown hg10 (by omega) hup10
      replace c0 := hg10.cell c0 (fun e => by have h2 := Option.some.inj e; dsimp only at h2; omega); replace c1 := hg10.cell c1 (fun e => by have h2 := Option.some.inj e; dsimp only at h2; omega)
      have I10 := I9.other hg10 (fun z hz e => by have h1 := HA0.out z hz; have h2 := Option.some.inj e; omega)
      have J10 := J9.other hg10 (fun z hz e => by have h1 := HA1.out z hz; have h2 := Option.some.inj e; omega)
      have ho10 := World.ownsRow.kept ho9 hg10 (by
        cases h : a1 with
        | none => exact .inl rfl
        | some z => exact .inr (fun e => by have h1 := HA1.out z h; have h2 := Option.some.inj e; omega))
      clear hr9 I9 J9 ho9 hup10 hg10
      go_wp2_with fail
      refine (eqSpotS_same a1 a0 cap1 cap0 xs hxl J10 I10).mono ?_
      rintro e w11 ⟨rfl, hb11⟩
      have hs11 := hb11.size; (try simp at hs11); have hB11 : Below w.heap.size w w11 := (by repeat (first | exact Below.refl _ _ | assumption | refine Below.drew ?_ | refine below_drewN ?_ _ | refine Below.alloc ?_ (by first | omega | (simp; done) | (simp; omega)) _ | refine Below.setCell ?_ (by first | omega | (simp; done) | (simp; omega)) _ | refine Below.trans ?_ (Below.mono (by assumption) (by first | omega | (simp; done) | (simp; omega)))))
      replace c0 := (hb11.cell (p := ⟨w.heap.size, 0, none⟩) (by first | omega | (simp; done) | (simp; omega))).trans c0; replace c1 := (hb11.cell (p := ⟨w.heap.size, 1, none⟩) (by first | omega | (simp; done) | (simp; omega))).trans c1
      have I11 := I10.below hb11
      have ho11 := own_below ho10 hb11
      clear I10 J10 ho10
      go_wp2_with fail
      refine (markSpotS_any a1 _ cap1 xs hxl ho11).mono ?_
      rintro e w12 ⟨rfl, M12, hg12⟩
      have hne12 : ∀ b, b ≤ w3.heap.size → some b ≠ a1.map (·.block) := fun b hb e => by
        cases h : a1 with
        | none => rw [h] at e; cases e
        | some z => rw [h] at e; have h1 := HA1.out z h; have h2 : b = z.block := Option.some.inj e; omega
      have hup12 : ∀ k, a1.map (·.block) = some k → w.heap.size ≤ k := fun k e => by
        cases h : a1 with
        | none => rw [h] at e; cases e
        | some z => rw [h] at e; have h1 := HA1.out z h; have h2 : z.block = k := Option.some.inj e; omega
      have hs12 := hg12.size; have hB12 : Below w.heap.size w w12 := hB11.grown hg12 (by omega) hup12
      replace c0 := hg12.cell c0 (hne12 _ (show w.heap.size ≤ w3.heap.size by omega)); replace c1 := hg12.cell c1 (hne12 _ (show w.heap.size ≤ w3.heap.size by omega))
      have I12 := I11.other hg12 (fun z hz e => by
        cases h : a1 with
        | none => rw [h] at e; cases e
        | some z' => rw [h] at e; have h0 := HA0.out z hz; have h1 := HA1.out z' h; have h2 : z.block = z'.block := Option.some.inj e; omega)
      clear I11 ho11 hup12 hg12 hne12
      go_wp2_with fail
      refine (heldSpotS_marks a1 cap1 xs.length hxl M12).mono ?_
      rintro e w' ⟨rfl, rfl⟩
      go_upto_region 24 with fail
      go_cut [16, 17] (fun sa sb wx => (OwnPairs 41 wx w12.heap.size sa xs ∧ sb = .bool false ∧ Below w12.heap.size w12 wx) ∧ wx.cell? ⟨w.heap.size, 0, none⟩ = some (.int .i64 x) ∧ wx.cell? ⟨w.heap.size, 1, none⟩ = some (.int .i64 y))
      case first =>
        go_region_held3 (fun w' => w'.cell? ⟨w.heap.size, 0, none⟩ = some (.int .i64 x) ∧ w'.cell? ⟨w.heap.size, 1, none⟩ = some (.int .i64 y)) (refine ⟨?_, ?_⟩ <;> first | (go_keep; done) | (simp [*, World.cell?_alloc_past, World.cell?_setCell_far]; done) | (simp [*, World.cell?_alloc_past, World.cell?_alloc_at, World.cell?_setCell_far]; done) | (go_simp; done))
          (first | (go_at_call 16; ((with_reducible refine (HT.out _ (by repeat (first | exact Below.refl _ _ | assumption | refine Below.drew ?_ | refine below_drewN ?_ _ | refine Below.alloc ?_ (by first | omega | (simp; done) | (simp; omega)) _ | refine Below.setCell ?_ (by first | omega | (simp; done) | (simp; omega)) _ | refine Below.trans ?_ (Below.mono (by assumption) (by first | omega | (simp; done) | (simp; omega)))))).mono ?_); rintro e wl ⟨rfl, hrl, hbl⟩; have hsl := hbl.size; (try simp at hsl); have hll := hrl.lt; have sl := row_pairs hrl; (try simp at sl); clear hrl; have ql0 : wl.cell? ⟨w.heap.size, 0, none⟩ = _ := hbl.cell (p := ⟨w.heap.size, 0, none⟩) (by first | omega | (simp; done) | (simp; omega)); have ql1 : wl.cell? ⟨w.heap.size, 1, none⟩ = _ := hbl.cell (p := ⟨w.heap.size, 1, none⟩) (by first | omega | (simp; done) | (simp; omega)))) | (go_at_call 32; ((with_reducible refine (toSpot_any _ _ _).mono ?_); rintro e wt ⟨rfl, hbt⟩; have hst := hbt.size; (try simp at hst); (first | replace sl := sl.below hbt | skip); have qt0 : wt.cell? ⟨w.heap.size, 0, none⟩ = _ := hbt.cell (p := ⟨w.heap.size, 0, none⟩) (by first | omega | (simp; done) | (simp; omega)); have qt1 : wt.cell? ⟨w.heap.size, 1, none⟩ = _ := hbt.cell (p := ⟨w.heap.size, 1, none⟩) (by first | omega | (simp; done) | (simp; omega)))) | (go_at_call 33; ((with_reducible refine (HIM.out _ _ sl).mono ?_); rintro e w15 ⟨v15, rfl, ho15, hb15⟩; clear sl; have hs15 := hb15.size; (try simp at hs15); have qc0 : w15.cell? ⟨w.heap.size, 0, none⟩ = _ := hb15.cell (p := ⟨w.heap.size, 0, none⟩) (by first | omega | (simp; done) | (simp; omega)); have qc1 : w15.cell? ⟨w.heap.size, 1, none⟩ = _ := hb15.cell (p := ⟨w.heap.size, 1, none⟩) (by first | omega | (simp; done) | (simp; omega)))))
        all_goals
          obtain ⟨f0, f1⟩ : w15.cell? ⟨w.heap.size, 0, none⟩ = some (.int .i64 x) ∧ w15.cell? ⟨w.heap.size, 1, none⟩ = some (.int .i64 y) := by assumption
          have hsz15 : w.heap.size + 1 ≤ w15.heap.size := (by first | omega | (simp; done) | (simp; omega))
          go_wp2_with fail
          go_meet
          refine ⟨⟨own_mono ho15 (by first | omega | (simp; done) | (simp; omega)), rfl, (by repeat (first | exact Below.refl _ _ | assumption | refine Below.drew ?_ | refine below_drewN ?_ _ | refine Below.alloc ?_ (by first | omega | (simp; done) | (simp; omega)) _ | refine Below.setCell ?_ (by first | omega | (simp; done) | (simp; omega)) _ | refine Below.trans ?_ (Below.mono (by assumption) (by first | omega | (simp; done) | (simp; omega)))))⟩, f0, f1⟩
      case rest =>
        obtain ⟨⟨ho15, rfl, hb15⟩, c0, c1⟩ := hcut
        obtain ⟨w15, rfl⟩ : ∃ x, x = wc := ⟨_, rfl⟩
        have hs15 := hb15.size
        have hB15 := hB12.trans (hb15.mono (by first | omega | (simp; done) | (simp; omega)))
        have I15 := I12.below hb15
        have M15 := M12.below hb15
        clear I12 M12 hb15
        obtain ⟨a2, cap2, rfl, J15, _⟩ := own_viewP ho15
        clear ho15
        go_wp2_with fail
        refine (eqSpotS_same a2 a0 cap2 cap0 xs hxl J15 I15).mono ?_
        rintro e w16 ⟨rfl, hb16⟩
        have hs16 := hb16.size; (try simp at hs16); have hB16 : Below w.heap.size w w16 := (by repeat (first | exact Below.refl _ _ | assumption | refine Below.drew ?_ | refine below_drewN ?_ _ | refine Below.alloc ?_ (by first | omega | (simp; done) | (simp; omega)) _ | refine Below.setCell ?_ (by first | omega | (simp; done) | (simp; omega)) _ | refine Below.trans ?_ (Below.mono (by assumption) (by first | omega | (simp; done) | (simp; omega)))))
        have M16 := M15.below hb16
        clear I15 M15 J15
        go_wp2_with fail
        refine (heldSpotS_marks a1 cap1 xs.length hxl M16).mono ?_
        rintro e w' ⟨rfl, rfl⟩
        go_wp2_with fail
        go_ret
        exact ⟨rfl, hB16⟩
    case true =>
      go_wp2_with fail
      refine (toSpotS_any a cap l hl (ha.below hB7)).mono ?_
      rintro e w8 ⟨rfl, hr8, hb8⟩
      have hs8 := hb8.size; (try simp at hs8); have hB8 : Below w.heap.size w w8 := (by repeat (first | exact Below.refl _ _ | assumption | refine Below.drew ?_ | refine below_drewN ?_ _ | refine Below.alloc ?_ (by first | omega | (simp; done) | (simp; omega)) _ | refine Below.setCell ?_ (by first | omega | (simp; done) | (simp; omega)) _ | refine Below.trans ?_ (Below.mono (by assumption) (by first | omega | (simp; done) | (simp; omega)))))
      replace c0 := (hb8.cell (p := ⟨w.heap.size, 0, none⟩) (by first | omega | (simp; done) | (simp; omega))).trans c0; replace c1 := (hb8.cell (p := ⟨w.heap.size, 1, none⟩) (by first | omega | (simp; done) | (simp; omega))).trans c1
      have hr78 := hr7.of_block (hb8.block _ hr7.lt)
      have I8 := I7.below hb8
      have ho8 := own_below ho7 hb8
      have J8 := J7.below hb8
      have s8 := row_pairs hr8
      clear hr7 I7 ho7 hr8 J7
      go_wp2_with fail
      refine (eqSpotS_same _ _ _ _ l hl (row_pairs hr78) s8).mono ?_
      rintro e w9 ⟨rfl, hb9⟩
      have hs9 := hb9.size; (try simp at hs9); have hB9 : Below w.heap.size w w9 := (by repeat (first | exact Below.refl _ _ | assumption | refine Below.drew ?_ | refine below_drewN ?_ _ | refine Below.alloc ?_ (by first | omega | (simp; done) | (simp; omega)) _ | refine Below.setCell ?_ (by first | omega | (simp; done) | (simp; omega)) _ | refine Below.trans ?_ (Below.mono (by assumption) (by first | omega | (simp; done) | (simp; omega)))))
      replace c0 := (hb9.cell (p := ⟨w.heap.size, 0, none⟩) (by first | omega | (simp; done) | (simp; omega))).trans c0; replace c1 := (hb9.cell (p := ⟨w.heap.size, 1, none⟩) (by first | omega | (simp; done) | (simp; omega))).trans c1
      have hr9 := hr78.of_block (hb9.block _ hr78.lt)
      have I9 := I8.below hb9
      have ho9 := own_below ho8 hb9
      have J9 := J8.below hb9
      clear hr78 I8 ho8 s8 J8
      go_wp2_with fail
      refine (markSpotS_row _ l.length _ _ hl hr9).mono ?_
      rintro e w10 ⟨rfl, hg10⟩
      have hup10 : ∀ k, some w3.heap.size = some k → w.heap.size ≤ k := fun k e => by have := Option.some.inj e; omega
      have hs10 := hg10.size; have hB10 : Below w.heap.size w w10 := hB9.grown hg10 (by omega) hup10
      replace c0 := hg10.cell c0 (fun e => by have h2 := Option.some.inj e; dsimp only at h2; omega); replace c1 := hg10.cell c1 (fun e => by have h2 := Option.some.inj e; dsimp only at h2; omega)
      have I10 := I9.other hg10 (fun z hz e => by have h1 := HA0.out z hz; have h2 := Option.some.inj e; omega)
      have J10 := J9.other hg10 (fun z hz e => by have h1 := HA1.out z hz; have h2 := Option.some.inj e; omega)
      have ho10 := World.ownsRow.kept ho9 hg10 (by
        cases h : a1 with
        | none => exact .inl rfl
        | some z => exact .inr (fun e => by have h1 := HA1.out z h; have h2 := Option.some.inj e; omega))
      clear hr9 I9 J9 ho9 hup10 hg10
      go_wp2_with fail
      refine (eqSpotS_same a1 a0 cap1 cap0 xs hxl J10 I10).mono ?_
      rintro e w11 ⟨rfl, hb11⟩
      have hs11 := hb11.size; (try simp at hs11); have hB11 : Below w.heap.size w w11 := (by repeat (first | exact Below.refl _ _ | assumption | refine Below.drew ?_ | refine below_drewN ?_ _ | refine Below.alloc ?_ (by first | omega | (simp; done) | (simp; omega)) _ | refine Below.setCell ?_ (by first | omega | (simp; done) | (simp; omega)) _ | refine Below.trans ?_ (Below.mono (by assumption) (by first | omega | (simp; done) | (simp; omega)))))
      replace c0 := (hb11.cell (p := ⟨w.heap.size, 0, none⟩) (by first | omega | (simp; done) | (simp; omega))).trans c0; replace c1 := (hb11.cell (p := ⟨w.heap.size, 1, none⟩) (by first | omega | (simp; done) | (simp; omega))).trans c1
      have I11 := I10.below hb11
      have ho11 := own_below ho10 hb11
      clear I10 J10 ho10
      go_wp2_with fail
      refine (markSpotS_any a1 _ cap1 xs hxl ho11).mono ?_
      rintro e w12 ⟨rfl, M12, hg12⟩
      have hne12 : ∀ b, b ≤ w3.heap.size → some b ≠ a1.map (·.block) := fun b hb e => by
        cases h : a1 with
        | none => rw [h] at e; cases e
        | some z => rw [h] at e; have h1 := HA1.out z h; have h2 : b = z.block := Option.some.inj e; omega
      have hup12 : ∀ k, a1.map (·.block) = some k → w.heap.size ≤ k := fun k e => by
        cases h : a1 with
        | none => rw [h] at e; cases e
        | some z => rw [h] at e; have h1 := HA1.out z h; have h2 : z.block = k := Option.some.inj e; omega
      have hs12 := hg12.size; have hB12 : Below w.heap.size w w12 := hB11.grown hg12 (by omega) hup12
      replace c0 := hg12.cell c0 (hne12 _ (show w.heap.size ≤ w3.heap.size by omega)); replace c1 := hg12.cell c1 (hne12 _ (show w.heap.size ≤ w3.heap.size by omega))
      have I12 := I11.other hg12 (fun z hz e => by
        cases h : a1 with
        | none => rw [h] at e; cases e
        | some z' => rw [h] at e; have h0 := HA0.out z hz; have h1 := HA1.out z' h; have h2 : z.block = z'.block := Option.some.inj e; omega)
      clear I11 ho11 hup12 hg12 hne12
      go_wp2_with fail
      refine (heldSpotS_marks a1 cap1 xs.length hxl M12).mono ?_
      rintro e w' ⟨rfl, rfl⟩
      go_upto_region 24 with fail
      go_cut [16, 17] (fun sa sb wx => (OwnPairs 41 wx w12.heap.size sa xs ∧ sb = .bool true ∧ Below w12.heap.size w12 wx) ∧ wx.cell? ⟨w.heap.size, 0, none⟩ = some (.int .i64 x) ∧ wx.cell? ⟨w.heap.size, 1, none⟩ = some (.int .i64 y))
      case first =>
        go_region_held3 (fun w' => w'.cell? ⟨w.heap.size, 0, none⟩ = some (.int .i64 x) ∧ w'.cell? ⟨w.heap.size, 1, none⟩ = some (.int .i64 y)) (refine ⟨?_, ?_⟩ <;> first | (go_keep; done) | (simp [*, World.cell?_alloc_past, World.cell?_setCell_far]; done) | (simp [*, World.cell?_alloc_past, World.cell?_alloc_at, World.cell?_setCell_far]; done) | (go_simp; done))
          (first | (go_at_call 16; ((with_reducible refine (HT.out _ (by repeat (first | exact Below.refl _ _ | assumption | refine Below.drew ?_ | refine below_drewN ?_ _ | refine Below.alloc ?_ (by first | omega | (simp; done) | (simp; omega)) _ | refine Below.setCell ?_ (by first | omega | (simp; done) | (simp; omega)) _ | refine Below.trans ?_ (Below.mono (by assumption) (by first | omega | (simp; done) | (simp; omega)))))).mono ?_); rintro e wl ⟨rfl, hrl, hbl⟩; have hsl := hbl.size; (try simp at hsl); have hll := hrl.lt; have sl := row_pairs hrl; (try simp at sl); clear hrl; have ql0 : wl.cell? ⟨w.heap.size, 0, none⟩ = _ := hbl.cell (p := ⟨w.heap.size, 0, none⟩) (by first | omega | (simp; done) | (simp; omega)); have ql1 : wl.cell? ⟨w.heap.size, 1, none⟩ = _ := hbl.cell (p := ⟨w.heap.size, 1, none⟩) (by first | omega | (simp; done) | (simp; omega)))) | (go_at_call 32; ((with_reducible refine (toSpot_any _ _ _).mono ?_); rintro e wt ⟨rfl, hbt⟩; have hst := hbt.size; (try simp at hst); (first | replace sl := sl.below hbt | skip); have qt0 : wt.cell? ⟨w.heap.size, 0, none⟩ = _ := hbt.cell (p := ⟨w.heap.size, 0, none⟩) (by first | omega | (simp; done) | (simp; omega)); have qt1 : wt.cell? ⟨w.heap.size, 1, none⟩ = _ := hbt.cell (p := ⟨w.heap.size, 1, none⟩) (by first | omega | (simp; done) | (simp; omega)))) | (go_at_call 33; ((with_reducible refine (HIM.out _ _ sl).mono ?_); rintro e w15 ⟨v15, rfl, ho15, hb15⟩; clear sl; have hs15 := hb15.size; (try simp at hs15); have qc0 : w15.cell? ⟨w.heap.size, 0, none⟩ = _ := hb15.cell (p := ⟨w.heap.size, 0, none⟩) (by first | omega | (simp; done) | (simp; omega)); have qc1 : w15.cell? ⟨w.heap.size, 1, none⟩ = _ := hb15.cell (p := ⟨w.heap.size, 1, none⟩) (by first | omega | (simp; done) | (simp; omega)))))
        all_goals
          obtain ⟨f0, f1⟩ : w15.cell? ⟨w.heap.size, 0, none⟩ = some (.int .i64 x) ∧ w15.cell? ⟨w.heap.size, 1, none⟩ = some (.int .i64 y) := by assumption
          have hsz15 : w.heap.size + 1 ≤ w15.heap.size := (by first | omega | (simp; done) | (simp; omega))
          go_wp2_with fail
          go_meet
          refine ⟨⟨own_mono ho15 (by first | omega | (simp; done) | (simp; omega)), rfl, (by repeat (first | exact Below.refl _ _ | assumption | refine Below.drew ?_ | refine below_drewN ?_ _ | refine Below.alloc ?_ (by first | omega | (simp; done) | (simp; omega)) _ | refine Below.setCell ?_ (by first | omega | (simp; done) | (simp; omega)) _ | refine Below.trans ?_ (Below.mono (by assumption) (by first | omega | (simp; done) | (simp; omega)))))⟩, f0, f1⟩
      case rest =>
        obtain ⟨⟨ho15, rfl, hb15⟩, c0, c1⟩ := hcut
        obtain ⟨w15, rfl⟩ : ∃ x, x = wc := ⟨_, rfl⟩
        have hs15 := hb15.size
        have hB15 := hB12.trans (hb15.mono (by first | omega | (simp; done) | (simp; omega)))
        have I15 := I12.below hb15
        have M15 := M12.below hb15
        clear I12 M12 hb15
        obtain ⟨a2, cap2, rfl, J15, _⟩ := own_viewP ho15
        clear ho15
        go_wp2_with fail
        refine (eqSpotS_same a2 a0 cap2 cap0 xs hxl J15 I15).mono ?_
        rintro e w16 ⟨rfl, hb16⟩
        have hs16 := hb16.size; (try simp at hs16); have hB16 : Below w.heap.size w w16 := (by repeat (first | exact Below.refl _ _ | assumption | refine Below.drew ?_ | refine below_drewN ?_ _ | refine Below.alloc ?_ (by first | omega | (simp; done) | (simp; omega)) _ | refine Below.setCell ?_ (by first | omega | (simp; done) | (simp; omega)) _ | refine Below.trans ?_ (Below.mono (by assumption) (by first | omega | (simp; done) | (simp; omega)))))
        have M16 := M15.below hb16
        clear I15 M15 J15
        go_wp2_with fail
        refine (heldSpotS_marks a1 cap1 xs.length hxl M16).mono ?_
        rintro e w' ⟨rfl, rfl⟩
        go_wp2_with fail
        go_ret
        exact ⟨rfl, hB16⟩

theorem placL0_law (i x y : Int) (a : Option Addr) (cap : Nat) (l : List (Int × Int)) (hm : l.length ≤ 9223372036854775807) (w : World) (ha : PairsAt w a l) :
    Calls Try.prog 9 #[.slice a l.length cap, .int .i64 i, .agg #[.int .i64 x, .int .i64 y]] w fun e w' => e = .returned (.bool true) ∧ Below w.heap.size w w' := by
  by_cases hl : l.length ≤ 1048576
  · exact placL0_fits i x y a cap l hl w ha
  · exact placL0_over i x y a cap l (by omega) hm w

set_option maxRecDepth 100000 in
theorem placL0_holds : Rows.FnExactPlacePerformerSaid :=
  OpenClaim.holds_of_wide 9 Try.f9 rfl rfl rfl rfl rfl rfl rfl ⟨rfl, rfl, rfl, rfl, rfl⟩ rfl rfl rfl rfl rfl (by kernel_rfl) Try.func9 (by kernel_rfl)
    (of_decide_eq_true (by kernel_rfl)) (by unfold Func.isWrapper; rw [if_neg (of_decide_eq_false (by kernel_rfl))]; exact ⟨rfl, rfl⟩)
    (fun os started H enc _ => law_lifted (C := Try.checked) (s := Rows.fnExactPlacePerformerSpec) Try.own started (by kernel_rfl) Try.func9
      (ChangeSpec.witness6 (enc := enc) (C := Try.checked) false ⟨#[], #[.slice none 0 0, .int .i64 0, .agg #[.int .i64 0, .int .i64 0]], []⟩ 8 (by kernel_rfl) (by kernel_rfl) (by kernel_rfl) (by kernel_rfl))
      Try.laidOut (by kernel_rfl) rfl Try.underlying4 rfl
      (fun W base args ds p hval hA hlt => by
        have hA' : DataW.TrodAll enc Try.prog W 0 (fun _ => true) true Try.f9.params.toList args.toList ds p := hA
        have hval' : ∀ (j : Nat) t v, Try.f9.params[j]? = some t → args[j]? = some v → Value.okWide Try.prog W .any base t v := hval
        rw [Try.params9] at hA' hval'
        obtain ⟨v0, v1, v2, d0, d1, d2, p0, p1, p2, rfl, rfl, rfl, h0, h1, h2⟩ := trodAll_three hA'
        obtain ⟨a, cap, l, rfl, ha, hm⟩ := open_SpotS (hval' 0 _ v0 rfl rfl) h0
        obtain ⟨i, rfl, rfl, rfl, wfi⟩ := open_int Try.underlying3 (hval' 1 _ v1 rfl rfl) h1
        obtain ⟨x, y, rfl, _, _⟩ := open_spot (hval' 2 _ v2 rfl rfl) h2
        exact ⟨rfl, placL0_law i x y a cap l hm W ha⟩))

end Go.Proofs.Ytfimjfchdaioeaa
