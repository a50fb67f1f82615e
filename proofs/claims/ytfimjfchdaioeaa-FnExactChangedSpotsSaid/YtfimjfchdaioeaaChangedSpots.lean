/- The exact law of ChangedSpots holds at every argument. No conditions. -/
import Derived.Test.YtfimjfchdaioeaaChChg
import Derived.Test.YtfimjfchdaioeaaMk2Spot
import Derived.Test.YtfimjfchdaioeaaEqSpot
import Derived.Test.YtfimjfchdaioeaaMkSpot
import Derived.Test.YtfimjfchdaioeaaOpenSpot
namespace Go.Proofs.Ytfimjfchdaioeaa
open Go.ChangeShapes Go.WideShapes Go.ChangeAt Go.RowKit


set_option maxHeartbeats 8000000 in
theorem chspL0_over1 (a : Option Addr) (capA : Nat) (l1 : List (Int × Int)) (b : Option Addr) (capB : Nat) (l2 : List (Int × Int)) (hl : 1048576 < l1.length) (hm : l1.length ≤ 9223372036854775807) (w : World) :
    Calls Try.prog 10 #[.slice a l1.length capA, .slice b l2.length capB] w fun e w' => e = .returned (.bool true) ∧ Below w.heap.size w w' := by
  go_enter Try.func10, Try.ntmps10
  go_wp2_with fail
  refine (szSpotS_over a capA l1.length hl hm _).mono ?_
  rintro e w' ⟨rfl, rfl⟩
  go_wp2_with fail
  go_ret
  exact ⟨rfl, (by repeat (first | exact Below.refl _ _ | assumption | refine Below.drew ?_ | refine below_drewN ?_ _ | refine Below.alloc ?_ (by first | omega | (simp; done) | (simp; omega)) _ | refine Below.setCell ?_ (by first | omega | (simp; done) | (simp; omega)) _ | refine Below.trans ?_ (Below.mono (by assumption) (by first | omega | (simp; done) | (simp; omega)))))⟩

set_option maxHeartbeats 8000000 in
theorem chspL0_over2 (a : Option Addr) (capA : Nat) (l1 : List (Int × Int)) (b : Option Addr) (capB : Nat) (l2 : List (Int × Int)) (hl1 : l1.length ≤ 1048576) (hl : 1048576 < l1.length + l2.length) (hm : l2.length ≤ 9223372036854775807) (w : World) :
    Calls Try.prog 10 #[.slice a l1.length capA, .slice b l2.length capB] w fun e w' => e = .returned (.bool true) ∧ Below w.heap.size w w' := by
  have z1 : (0 : Int) ≤ 1048576 - (l1.length : Int) := by omega
  have z2 : ¬ ((1048576 : Int) - (l1.length : Int) < 0) := by omega
  go_enter Try.func10, Try.ntmps10
  go_wp2_with fail
  refine (szSpotS_fits a capA l1.length hl1 _).mono ?_
  rintro e w' ⟨rfl, rfl⟩
  go_wp2_with fail
  refine (szSpotS_overK b capB l2.length (1048576 - (l1.length : Int)) (by omega) (by omega) (by omega) hm _).mono ?_
  rintro e w' ⟨rfl, rfl⟩
  go_wp2_with fail
  go_ret
  exact ⟨rfl, (by repeat (first | exact Below.refl _ _ | assumption | refine Below.drew ?_ | refine below_drewN ?_ _ | refine Below.alloc ?_ (by first | omega | (simp; done) | (simp; omega)) _ | refine Below.setCell ?_ (by first | omega | (simp; done) | (simp; omega)) _ | refine Below.trans ?_ (Below.mono (by assumption) (by first | omega | (simp; done) | (simp; omega)))))⟩

set_option maxRecDepth 100000 in
set_option maxHeartbeats 8000000 in
theorem chspL0_fits (a : Option Addr) (capA : Nat) (l1 : List (Int × Int)) (b : Option Addr) (capB : Nat) (l2 : List (Int × Int)) (hl : l1.length + l2.length ≤ 1048576) (w : World) (ha : PairsAt w a l1) (hb : PairsAt w b l2) :
    Calls Try.prog 10 #[.slice a l1.length capA, .slice b l2.length capB] w fun e w' => e = .returned (.bool true) ∧ Below w.heap.size w w' := by
  have hl1 : l1.length ≤ 1048576 := by omega
  have hl2 : l2.length ≤ 1048576 := by omega
  have hxl : (chgL l1 l2).length ≤ 1048576 := Nat.le_trans (chgL_length _ _) hl1
  have HSP := Lib.hid (fun (a : Option Addr) (b : Option Addr) (W : World) (s1 : PairsAt W a l1) (s2 : PairsAt W b l2) => specChg_any a l1.length l1 hl1 (Nat.le_refl _) b l2.length l2 hl2 (Nat.le_refl _) s1 s2 )
  have HIM := Lib.hid (fun (a : Option Addr) (b : Option Addr) (W : World) (s1 : PairsAt W a l1) (s2 : PairsAt W b l2) => chgI_any a l1.length l1 hl1 b l2.length l2 hl2 s1 s2 )
  obtain ⟨xs, hxs⟩ : ∃ xs, xs = chgL l1 l2 := ⟨_, rfl⟩
  obtain ⟨ok, hok⟩ : ∃ ok, ok = prO l1 l2 := ⟨_, rfl⟩
  rw [← hxs] at hxl
  simp only [← hxs, ← hok] at HSP HIM
  have hB0 : Below w.heap.size w w := Below.refl _ _
  have z1 : (0 : Int) ≤ 1048576 - (l1.length : Int) := by omega
  have z2 : ¬ ((1048576 : Int) - (l1.length : Int) < 0) := by omega
  have z3 : ¬ ((1048576 : Int) - (l1.length : Int) - (l2.length : Int) < 0) := by omega
  have z4 : (0 : Int) ≤ 1048576 - (l1.length : Int) - (l2.length : Int) := by omega
  clear hxs hok
  go_enter Try.func10, Try.ntmps10
  go_wp2_with fail
  refine (szSpotS_fits a capA l1.length hl1 _).mono ?_
  rintro e w' ⟨rfl, rfl⟩
  go_wp2_with fail
  refine (szSpotS_fitsK b capB l2.length (1048576 - (l1.length : Int)) (by omega) (by omega) (by omega) _).mono ?_
  rintro e w' ⟨rfl, rfl⟩
  go_wp2_with fail
  refine (toSpotS_any a capA l1 hl1 (ha.below hB0)).mono ?_
  rintro e w1 ⟨rfl, hr1, hb1⟩
  have hs1 := hb1.size; (try simp at hs1); have hB1 : Below w.heap.size w w1 := (by repeat (first | exact Below.refl _ _ | assumption | refine Below.drew ?_ | refine below_drewN ?_ _ | refine Below.alloc ?_ (by first | omega | (simp; done) | (simp; omega)) _ | refine Below.setCell ?_ (by first | omega | (simp; done) | (simp; omega)) _ | refine Below.trans ?_ (Below.mono (by assumption) (by first | omega | (simp; done) | (simp; omega)))))
  have s1 := (row_pairs hr1)
  clear hr1
  go_wp2_with fail
  refine (toSpotS_any b capB l2 hl2 (hb.below hB1)).mono ?_
  rintro e w2 ⟨rfl, hr2, hb2⟩
  have hs2 := hb2.size; (try simp at hs2); have hB2 : Below w.heap.size w w2 := (by repeat (first | exact Below.refl _ _ | assumption | refine Below.drew ?_ | refine below_drewN ?_ _ | refine Below.alloc ?_ (by first | omega | (simp; done) | (simp; omega)) _ | refine Below.setCell ?_ (by first | omega | (simp; done) | (simp; omega)) _ | refine Below.trans ?_ (Below.mono (by assumption) (by first | omega | (simp; done) | (simp; omega)))))
  have s2 := (row_pairs hr2)
  have s12 := s1.below hb2
  clear hr2 s1
  go_wp2_with fail
  with_reducible refine (HSP.out _ _ _ s12 s2).mono ?_
  rintro e w3 ⟨v0, rfl, ho3, hb3⟩
  have hs3 := hb3.size; (try simp at hs3); have hB3 : Below w.heap.size w w3 := (by repeat (first | exact Below.refl _ _ | assumption | refine Below.drew ?_ | refine below_drewN ?_ _ | refine Below.alloc ?_ (by first | omega | (simp; done) | (simp; omega)) _ | refine Below.setCell ?_ (by first | omega | (simp; done) | (simp; omega)) _ | refine Below.trans ?_ (Below.mono (by assumption) (by first | omega | (simp; done) | (simp; omega)))))
  clear s2 s12
  obtain ⟨a0, cap0, rfl, I3, hA0⟩ := own_viewI ho3
  have HA0 := Lib.hid hA0
  clear ho3 hA0
  go_wp2_with fail
  refine (toSpotS_any a capA l1 hl1 (ha.below hB3)).mono ?_
  rintro e w4 ⟨rfl, hr4, hb4⟩
  have hs4 := hb4.size; (try simp at hs4); have hB4 : Below w.heap.size w w4 := (by repeat (first | exact Below.refl _ _ | assumption | refine Below.drew ?_ | refine below_drewN ?_ _ | refine Below.alloc ?_ (by first | omega | (simp; done) | (simp; omega)) _ | refine Below.setCell ?_ (by first | omega | (simp; done) | (simp; omega)) _ | refine Below.trans ?_ (Below.mono (by assumption) (by first | omega | (simp; done) | (simp; omega)))))
  have I4 := I3.below hb4
  clear I3
  go_wp2_with fail
  refine (toSpotS_any b capB l2 hl2 (hb.below hB4)).mono ?_
  rintro e w5 ⟨rfl, hr5, hb5⟩
  have hs5 := hb5.size; (try simp at hs5); have hB5 : Below w.heap.size w w5 := (by repeat (first | exact Below.refl _ _ | assumption | refine Below.drew ?_ | refine below_drewN ?_ _ | refine Below.alloc ?_ (by first | omega | (simp; done) | (simp; omega)) _ | refine Below.setCell ?_ (by first | omega | (simp; done) | (simp; omega)) _ | refine Below.trans ?_ (Below.mono (by assumption) (by first | omega | (simp; done) | (simp; omega)))))
  have hr45 := hr4.of_block (hb5.block _ hr4.lt)
  have I5 := I4.below hb5
  have hr4l := hr4.lt
  have hr5l := hr5.lt
  clear hr4 I4
  go_wp2_with fail
  with_reducible refine (HIM.out _ _ _ (row_pairs hr45) (row_pairs hr5)).mono ?_
  rintro e w6 ⟨v1, rfl, ho6, hb6⟩
  have hs6 := hb6.size; (try simp at hs6); have hB6 : Below w.heap.size w w6 := (by repeat (first | exact Below.refl _ _ | assumption | refine Below.drew ?_ | refine below_drewN ?_ _ | refine Below.alloc ?_ (by first | omega | (simp; done) | (simp; omega)) _ | refine Below.setCell ?_ (by first | omega | (simp; done) | (simp; omega)) _ | refine Below.trans ?_ (Below.mono (by assumption) (by first | omega | (simp; done) | (simp; omega)))))
  have ha6 := hr45.of_block (hb6.block _ hr45.lt)
  have hc6 := hr5.of_block (hb6.block _ hr5.lt)
  have I6 := I5.below hb6
  clear hr45 hr5 I5
  obtain ⟨a1, cap1, rfl, J6, hA1⟩ := own_viewI ho6
  have HA1 := Lib.hid hA1
  clear hA1
  go_wp2_with fail
  refine (eqIntS_same a1 a0 cap1 cap0 xs hxl J6 I6).mono ?_
  rintro e w7 ⟨rfl, hb7⟩
  have hs7 := hb7.size; (try simp at hs7); have hB7 : Below w.heap.size w w7 := (by repeat (first | exact Below.refl _ _ | assumption | refine Below.drew ?_ | refine below_drewN ?_ _ | refine Below.alloc ?_ (by first | omega | (simp; done) | (simp; omega)) _ | refine Below.setCell ?_ (by first | omega | (simp; done) | (simp; omega)) _ | refine Below.trans ?_ (Below.mono (by assumption) (by first | omega | (simp; done) | (simp; omega)))))
  have ha7 := ha6.of_block (hb7.block _ ha6.lt)
  have hc7 := hc6.of_block (hb7.block _ hc6.lt)
  have I7 := I6.below hb7
  have ho7 := own_below ho6 hb7
  have J7 := J6.below hb7
  clear ha6 hc6 I6 J6 ho6
  cases ok
  all_goals
    go_wp2_with fail
    refine (toSpotS_any a capA l1 hl1 (ha.below hB7)).mono ?_
    rintro e w8 ⟨rfl, hr8, hb8⟩
    have hs8 := hb8.size; (try simp at hs8); have hB8 : Below w.heap.size w w8 := (by repeat (first | exact Below.refl _ _ | assumption | refine Below.drew ?_ | refine below_drewN ?_ _ | refine Below.alloc ?_ (by first | omega | (simp; done) | (simp; omega)) _ | refine Below.setCell ?_ (by first | omega | (simp; done) | (simp; omega)) _ | refine Below.trans ?_ (Below.mono (by assumption) (by first | omega | (simp; done) | (simp; omega)))))
    have ha8 := ha7.of_block (hb8.block _ ha7.lt)
    have hc8 := hc7.of_block (hb8.block _ hc7.lt)
    have I8 := I7.below hb8
    have ho8 := own_below ho7 hb8
    have J8 := J7.below hb8
    have s8 := row_pairs hr8
    clear ha7 hc7 I7 ho7 J7 hr8
    go_wp2_with fail
    refine (eqSpotS_same _ _ _ _ l1 hl1 (row_pairs ha8) s8).mono ?_
    rintro e w9 ⟨rfl, hb9⟩
    have hs9 := hb9.size; (try simp at hs9); have hB9 : Below w.heap.size w w9 := (by repeat (first | exact Below.refl _ _ | assumption | refine Below.drew ?_ | refine below_drewN ?_ _ | refine Below.alloc ?_ (by first | omega | (simp; done) | (simp; omega)) _ | refine Below.setCell ?_ (by first | omega | (simp; done) | (simp; omega)) _ | refine Below.trans ?_ (Below.mono (by assumption) (by first | omega | (simp; done) | (simp; omega)))))
    have ha9 := ha8.of_block (hb9.block _ ha8.lt)
    have hc9 := hc8.of_block (hb9.block _ hc8.lt)
    have I9 := I8.below hb9
    have ho9 := own_below ho8 hb9
    have J9 := J8.below hb9
    clear ha8 hc8 I8 ho8 s8 J8
    go_wp2_with fail
    refine (toSpotS_any b capB l2 hl2 (hb.below hB9)).mono ?_
    rintro e w10 ⟨rfl, hr10, hb10⟩
    have hs10 := hb10.size; (try simp at hs10); have hB10 : Below w.heap.size w w10 := (by repeat (first | exact Below.refl _ _ | assumption | refine Below.drew ?_ | refine below_drewN ?_ _ | refine Below.alloc ?_ (by first | omega | (simp; done) | (simp; omega)) _ | refine Below.setCell ?_ (by first | omega | (simp; done) | (simp; omega)) _ | refine Below.trans ?_ (Below.mono (by assumption) (by first | omega | (simp; done) | (simp; omega)))))
    have ha10 := ha9.of_block (hb10.block _ ha9.lt)
    have hc10 := hc9.of_block (hb10.block _ hc9.lt)
    have I10 := I9.below hb10
    have ho10 := own_below ho9 hb10
    have J10 := J9.below hb10
    have s10 := row_pairs hr10
    clear ha9 hc9 I9 ho9 J9 hr10
    go_wp2_with fail
    refine (eqSpotS_same _ _ _ _ l2 hl2 (row_pairs hc10) s10).mono ?_
    rintro e w11 ⟨rfl, hb11⟩
    have hs11 := hb11.size; (try simp at hs11); have hB11 : Below w.heap.size w w11 := (by repeat (first | exact Below.refl _ _ | assumption | refine Below.drew ?_ | refine below_drewN ?_ _ | refine Below.alloc ?_ (by first | omega | (simp; done) | (simp; omega)) _ | refine Below.setCell ?_ (by first | omega | (simp; done) | (simp; omega)) _ | refine Below.trans ?_ (Below.mono (by assumption) (by first | omega | (simp; done) | (simp; omega)))))
    have ha11 := ha10.of_block (hb11.block _ ha10.lt)
    have hc11 := hc10.of_block (hb11.block _ hc10.lt)
    have I11 := I10.below hb11
    have ho11 := own_below ho10 hb11
    have J11 := J10.below hb11
    clear ha10 hc10 I10 ho10 s10 J10
    go_wp2_with fail
    refine (markSpotS_row _ l1.length _ _ hl1 ha11).mono ?_
    rintro e w12 ⟨rfl, hg12⟩
    have hup12 : ∀ k, some w3.heap.size = some k → w.heap.size ≤ k := fun k e => by have := Option.some.inj e; omega
    have hs12 := hg12.size; have hB12 : Below w.heap.size w w12 := hB11.grown hg12 (by omega) hup12
    have I12 := ints_other I11 hg12 (fun z hz e => by have h1 := HA0.out z hz; have h2 := Option.some.inj e; omega)
    have J12 := ints_other J11 hg12 (fun z hz e => by have h1 := HA1.out z hz; have h2 := Option.some.inj e; omega)
    have hc12 := hc11.of_block (hg12.block _ hc11.lt (fun e => by have h2 := Option.some.inj e; omega))
    have ho12 : OwnInts w12 w5.heap.size (.slice a1 xs.length cap1) xs := World.ownsRow.kept ho11 hg12 (by
      cases h : a1 with
      | none => exact .inl rfl
      | some z => exact .inr (fun e => by have h1 := HA1.out z h; have h2 := Option.some.inj e; omega))
    clear ha11 hc11 I11 J11 ho11 hup12 hg12
    have y1 : ¬ ((1 : Int) + 2 * (l1.length : Int) + 2 * (l2.length : Int) < 0) := by omega
    have y2 : (0 : Int) ≤ 1 + 2 * (l1.length : Int) + 2 * (l2.length : Int) := by omega
    go_wp2_with fail
    refine (markSpotS_rowK _ l2.length _ _ hl2 (1 + 2 * (l1.length : Int)) (by omega) (by omega) hc12).mono ?_
    rintro e w13 ⟨rfl, hg13⟩
    have hup13 : ∀ k, some w4.heap.size = some k → w.heap.size ≤ k := fun k e => by have := Option.some.inj e; omega
    have hs13 := hg13.size; have hB13 : Below w.heap.size w w13 := hB12.grown hg13 (by omega) hup13
    have I13 := ints_other I12 hg13 (fun z hz e => by have h1 := HA0.out z hz; have h2 := Option.some.inj e; omega)
    have J13 := ints_other J12 hg13 (fun z hz e => by have h1 := HA1.out z hz; have h2 := Option.some.inj e; omega)
    have ho13 : OwnInts w13 w5.heap.size (.slice a1 xs.length cap1) xs := World.ownsRow.kept ho12 hg13 (by
      cases h : a1 with
      | none => exact .inl rfl
      | some z => exact .inr (fun e => by have h1 := HA1.out z h; have h2 := Option.some.inj e; omega))
    clear hc12 I12 J12 ho12 hup13 hg13
    go_wp2_with fail
    refine (eqIntS_same a1 a0 cap1 cap0 xs hxl J13 I13).mono ?_
    rintro e w14 ⟨rfl, hb14⟩
    have hs14 := hb14.size; (try simp at hs14); have hB14 : Below w.heap.size w w14 := (by repeat (first | exact Below.refl _ _ | assumption | refine Below.drew ?_ | refine below_drewN ?_ _ | refine Below.alloc ?_ (by first | omega | (simp; done) | (simp; omega)) _ | refine Below.setCell ?_ (by first | omega | (simp; done) | (simp; omega)) _ | refine Below.trans ?_ (Below.mono (by assumption) (by first | omega | (simp; done) | (simp; omega)))))
    have I14 := I13.below hb14
    have ho14 := own_below ho13 hb14
    clear I13 J13 ho13 y1 y2
    go_wp2_with fail
    refine (markIntS_any a1 w5.heap.size cap1 xs hxl ho14).mono ?_
    rintro e w15 ⟨rfl, M15, hg15⟩
    have hup15 : ∀ k, a1.map (·.block) = some k → w.heap.size ≤ k := fun k e => by
      cases h : a1 with
      | none => rw [h] at e; cases e
      | some z => rw [h] at e; have h1 := HA1.out z h; have h2 : z.block = k := Option.some.inj e; omega
    have hs15 := hg15.size; have hB15 : Below w.heap.size w w15 := hB14.grown hg15 (by omega) hup15
    have I15 := ints_other I14 hg15 (fun z hz e => by
      cases h : a1 with
      | none => rw [h] at e; cases e
      | some z' => rw [h] at e; have h0 := HA0.out z hz; have h1 := HA1.out z' h; have h2 : z.block = z'.block := Option.some.inj e; omega)
    clear I14 ho14 hup15 hg15
    go_wp2_with fail
    refine (heldIntS_ones a1 cap1 xs.length hxl M15).mono ?_
    rintro e w' ⟨rfl, rfl⟩
    go_wp2_with fail
    refine (toSpotS_any a capA l1 hl1 (ha.below hB15)).mono ?_
    rintro e w16 ⟨rfl, hr16, hb16⟩
    have hs16 := hb16.size; (try simp at hs16); have hB16 : Below w.heap.size w w16 := (by repeat (first | exact Below.refl _ _ | assumption | refine Below.drew ?_ | refine below_drewN ?_ _ | refine Below.alloc ?_ (by first | omega | (simp; done) | (simp; omega)) _ | refine Below.setCell ?_ (by first | omega | (simp; done) | (simp; omega)) _ | refine Below.trans ?_ (Below.mono (by assumption) (by first | omega | (simp; done) | (simp; omega)))))
    have I16 := I15.below hb16
    have M16 := M15.below hb16
    have s16 := row_pairs hr16
    clear I15 M15 hr16
    go_wp2_with fail
    refine (toSpotS_any b capB l2 hl2 (hb.below hB16)).mono ?_
    rintro e w17 ⟨rfl, hr17, hb17⟩
    have hs17 := hb17.size; (try simp at hs17); have hB17 : Below w.heap.size w w17 := (by repeat (first | exact Below.refl _ _ | assumption | refine Below.drew ?_ | refine below_drewN ?_ _ | refine Below.alloc ?_ (by first | omega | (simp; done) | (simp; omega)) _ | refine Below.setCell ?_ (by first | omega | (simp; done) | (simp; omega)) _ | refine Below.trans ?_ (Below.mono (by assumption) (by first | omega | (simp; done) | (simp; omega)))))
    have I17 := I16.below hb17
    have M17 := M16.below hb17
    have s17 := row_pairs hr17
    have s167 := s16.below hb17
    clear I16 M16 hr17 s16
    go_wp2_with fail
    with_reducible refine (HIM.out _ _ _ s167 s17).mono ?_
    rintro e w18 ⟨v2, rfl, ho18, hb18⟩
    have hs18 := hb18.size; (try simp at hs18); have hB18 : Below w.heap.size w w18 := (by repeat (first | exact Below.refl _ _ | assumption | refine Below.drew ?_ | refine below_drewN ?_ _ | refine Below.alloc ?_ (by first | omega | (simp; done) | (simp; omega)) _ | refine Below.setCell ?_ (by first | omega | (simp; done) | (simp; omega)) _ | refine Below.trans ?_ (Below.mono (by assumption) (by first | omega | (simp; done) | (simp; omega)))))
    have I18 := I17.below hb18
    have M18 := M17.below hb18
    clear I17 M17 s17 s167
    obtain ⟨a2, cap2, rfl, J18, _⟩ := own_viewI ho18
    clear ho18
    go_wp2_with fail
    refine (eqIntS_same a2 a0 cap2 cap0 xs hxl J18 I18).mono ?_
    rintro e w19 ⟨rfl, hb19⟩
    have hs19 := hb19.size; (try simp at hs19); have hB19 : Below w.heap.size w w19 := (by repeat (first | exact Below.refl _ _ | assumption | refine Below.drew ?_ | refine below_drewN ?_ _ | refine Below.alloc ?_ (by first | omega | (simp; done) | (simp; omega)) _ | refine Below.setCell ?_ (by first | omega | (simp; done) | (simp; omega)) _ | refine Below.trans ?_ (Below.mono (by assumption) (by first | omega | (simp; done) | (simp; omega)))))
    have M19 := M18.below hb19
    clear I18 M18 J18
    go_wp2_with fail
    refine (heldIntS_ones a1 cap1 xs.length hxl M19).mono ?_
    rintro e w' ⟨rfl, rfl⟩
    go_wp2_with fail
    go_ret
    exact ⟨rfl, hB19⟩

theorem chspL0_law (a : Option Addr) (capA : Nat) (l1 : List (Int × Int)) (b : Option Addr) (capB : Nat) (l2 : List (Int × Int)) (hm1 : l1.length ≤ 9223372036854775807) (hm2 : l2.length ≤ 9223372036854775807) (w : World) (ha : PairsAt w a l1) (hb : PairsAt w b l2) :
    Calls Try.prog 10 #[.slice a l1.length capA, .slice b l2.length capB] w fun e w' => e = .returned (.bool true) ∧ Below w.heap.size w w' := by
  by_cases hl1 : l1.length ≤ 1048576
  · by_cases hl : l1.length + l2.length ≤ 1048576
    · exact chspL0_fits  a capA l1 b capB l2 hl w ha hb
    · exact chspL0_over2  a capA l1 b capB l2 hl1 (by omega) hm2 w
  · exact chspL0_over1  a capA l1 b capB l2 (by omega) hm1 w

set_option maxRecDepth 100000 in
theorem chspL0_holds : Rows.FnExactChangedSpotsSaid :=
  OpenClaim.holds_of_wide 10 Try.f10 rfl rfl rfl rfl rfl rfl rfl ⟨rfl, rfl, rfl, rfl, rfl⟩ rfl rfl rfl rfl rfl (by kernel_rfl) Try.func10 (by kernel_rfl)
    (of_decide_eq_true (by kernel_rfl)) (by unfold Func.isWrapper; rw [if_neg (of_decide_eq_false (by kernel_rfl))]; exact ⟨rfl, rfl⟩)
    (fun os started H enc _ => law_lifted (C := Try.checked) (s := Rows.fnExactChangedSpotsSpec) Try.own started (by kernel_rfl) Try.func10
      (ChangeSpec.witness6 (enc := enc) (C := Try.checked) false ⟨#[], #[.slice none 0 0, .slice none 0 0], []⟩ 8 (by kernel_rfl) (by kernel_rfl) (by kernel_rfl) (by kernel_rfl))
      Try.laidOut (by kernel_rfl) rfl Try.underlying4 rfl
      (fun W base args ds p hval hA hlt => by
        have hA' : DataW.TrodAll enc Try.prog W 0 (fun _ => true) true Try.f10.params.toList args.toList ds p := hA
        have hval' : ∀ (j : Nat) t v, Try.f10.params[j]? = some t → args[j]? = some v → Value.okWide Try.prog W .any base t v := hval
        rw [Try.params10] at hA' hval'
        obtain ⟨v0, v1, d0, d1, p0, p1, rfl, rfl, rfl, h0, h1⟩ := trodAll_two hA'
        obtain ⟨a, capA, l1, rfl, ha, hm1⟩ := open_SpotS (hval' 0 _ v0 rfl rfl) h0
        obtain ⟨b, capB, l2, rfl, hb, hm2⟩ := open_SpotS (hval' 1 _ v1 rfl rfl) h1
        exact ⟨rfl, chspL0_law  a capA l1 b capB l2 hm1 hm2 W ha hb⟩))

end Go.Proofs.Ytfimjfchdaioeaa
