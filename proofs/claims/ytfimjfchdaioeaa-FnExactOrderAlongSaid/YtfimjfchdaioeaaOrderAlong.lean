/- The exact law of OrderAlong holds at every argument. No conditions. -/
import Derived.Test.YtfimjfchdaioeaaChOrdS
import Derived.Test.YtfimjfchdaioeaaEqSpot
import Derived.Test.YtfimjfchdaioeaaMkSpot
import Derived.Test.YtfimjfchdaioeaaOpenSpot
namespace Go.Proofs.Ytfimjfchdaioeaa
open Go.ChangeShapes Go.WideShapes Go.ChangeAt Go.RowKit


set_option maxHeartbeats 4000000 in
theorem ordaL0_over (a : Option Addr) (cap : Nat) (l : List (Int × Int)) (hl : 1048576 < l.length) (hm : l.length ≤ 9223372036854775807) (w : World) :
    Calls Try.prog 12 #[.slice a l.length cap] w fun e w' => e = .returned (.bool true) ∧ Below w.heap.size w w' := by
  go_enter Try.func12, Try.ntmps12
  go_wp2_with fail
  refine (szSpotS_over a cap l.length hl hm _).mono ?_
  rintro e w' ⟨rfl, rfl⟩
  go_wp2_with fail
  go_ret
  exact ⟨rfl, (by repeat (first | exact Below.refl _ _ | assumption | refine Below.drew ?_ | refine below_drewN ?_ _ | refine Below.alloc ?_ (by first | omega | (simp; done) | (simp; omega)) _ | refine Below.setCell ?_ (by first | omega | (simp; done) | (simp; omega)) _ | refine Below.trans ?_ (Below.mono (by assumption) (by first | omega | (simp; done) | (simp; omega)))))⟩

set_option maxRecDepth 100000 in
set_option maxHeartbeats 4000000 in
theorem ordaL0_fits (a : Option Addr) (cap : Nat) (l : List (Int × Int)) (hl : l.length ≤ 1048576) (w : World) (ha : PairsAt w a l) :
    Calls Try.prog 12 #[.slice a l.length cap] w fun e w' => e = .returned (.bool true) ∧ Below w.heap.size w w' := by
  have hxl : (ordL l).length ≤ 1048576 := Nat.le_trans (ordL_length _) hl
  obtain ⟨xs, hxs⟩ : ∃ xs, xs = ordL l := ⟨_, rfl⟩
  rw [← hxs] at hxl
  obtain ⟨ok, hok⟩ : ∃ ok, ok = chOk l := ⟨_, rfl⟩
  have Hxs := Lib.hid hxs
  have Hok := Lib.hid hok
  have hB0 : Below w.heap.size w w := Below.refl _ _
  clear hxs hok
  go_enter Try.func12, Try.ntmps12
  go_wp2_with fail
  refine (szSpotS_fits a cap l.length hl _).mono ?_
  rintro e w' ⟨rfl, rfl⟩
  go_wp2_with fail
  refine (toSpotS_any a cap l hl (ha.below hB0)).mono ?_
  rintro e w2 ⟨rfl, hr2, hb2⟩
  have hs2 := hb2.size; (try simp at hs2); have hB2 : Below w.heap.size w w2 := (by repeat (first | exact Below.refl _ _ | assumption | refine Below.drew ?_ | refine below_drewN ?_ _ | refine Below.alloc ?_ (by first | omega | (simp; done) | (simp; omega)) _ | refine Below.setCell ?_ (by first | omega | (simp; done) | (simp; omega)) _ | refine Below.trans ?_ (Below.mono (by assumption) (by first | omega | (simp; done) | (simp; omega)))))
  have s2 := row_pairs hr2
  clear hr2
  go_wp2_with fail
  refine (ordS_any _ _ l hl (Nat.le_refl _) s2 ).mono ?_
  rintro e w3 ⟨v0, rfl, ho3, hb3⟩
  rw [← Hxs.out] at ho3
  rw [← Hok.out]
  have hs3 := hb3.size; (try simp at hs3); have hB3 : Below w.heap.size w w3 := (by repeat (first | exact Below.refl _ _ | assumption | refine Below.drew ?_ | refine below_drewN ?_ _ | refine Below.alloc ?_ (by first | omega | (simp; done) | (simp; omega)) _ | refine Below.setCell ?_ (by first | omega | (simp; done) | (simp; omega)) _ | refine Below.trans ?_ (Below.mono (by assumption) (by first | omega | (simp; done) | (simp; omega)))))
  clear s2
  obtain ⟨a0, cap0, rfl, I3, hA0⟩ := own_viewI ho3
  have HA0 := Lib.hid hA0
  clear ho3 hA0
  go_wp2_with fail
  refine (toSpotS_any a cap l hl (ha.below hB3)).mono ?_
  rintro e w4 ⟨rfl, hr4, hb4⟩
  have hs4 := hb4.size; (try simp at hs4); have hB4 : Below w.heap.size w w4 := (by repeat (first | exact Below.refl _ _ | assumption | refine Below.drew ?_ | refine below_drewN ?_ _ | refine Below.alloc ?_ (by first | omega | (simp; done) | (simp; omega)) _ | refine Below.setCell ?_ (by first | omega | (simp; done) | (simp; omega)) _ | refine Below.trans ?_ (Below.mono (by assumption) (by first | omega | (simp; done) | (simp; omega)))))
  have hr4l := hr4.lt
  have s4 := row_pairs hr4
  have I4 := I3.below hb4
  clear I3
  go_wp2_with fail
  refine (ordI_any _ _ l hl s4 ).mono ?_
  rintro e w6 ⟨v1, rfl, ho6, hb6⟩
  rw [← Hxs.out] at ho6
  rw [← Hok.out]
  have hs6 := hb6.size; (try simp at hs6); have hB6 : Below w.heap.size w w6 := (by repeat (first | exact Below.refl _ _ | assumption | refine Below.drew ?_ | refine below_drewN ?_ _ | refine Below.alloc ?_ (by first | omega | (simp; done) | (simp; omega)) _ | refine Below.setCell ?_ (by first | omega | (simp; done) | (simp; omega)) _ | refine Below.trans ?_ (Below.mono (by assumption) (by first | omega | (simp; done) | (simp; omega)))))
  have hr6 := hr4.of_block (hb6.block _ hr4.lt)
  have I6 := I4.below hb6
  clear hr4 I4 s4
  obtain ⟨a1, cap1, rfl, J6, hA1⟩ := own_viewI ho6
  have HA1 := Lib.hid hA1
  clear hA1
  go_wp2_with fail
  refine (eqIntS_same a1 a0 cap1 cap0 xs hxl J6 I6).mono ?_
  rintro e w7 ⟨rfl, hb7⟩
  have hs7 := hb7.size; (try simp at hs7); have hB7 : Below w.heap.size w w7 := (by repeat (first | exact Below.refl _ _ | assumption | refine Below.drew ?_ | refine below_drewN ?_ _ | refine Below.alloc ?_ (by first | omega | (simp; done) | (simp; omega)) _ | refine Below.setCell ?_ (by first | omega | (simp; done) | (simp; omega)) _ | refine Below.trans ?_ (Below.mono (by assumption) (by first | omega | (simp; done) | (simp; omega)))))
  have hr7 := hr6.of_block (hb7.block _ hr6.lt)
  have I7 := I6.below hb7
  have ho7 := own_below ho6 hb7
  have J7 := J6.below hb7
  clear hr6 I6 J6 ho6
  cases ok
  all_goals
    go_wp2_with fail
    refine (toSpotS_any a cap l hl (ha.below hB7)).mono ?_
    rintro e w8 ⟨rfl, hr8, hb8⟩
    have hs8 := hb8.size; (try simp at hs8); have hB8 : Below w.heap.size w w8 := (by repeat (first | exact Below.refl _ _ | assumption | refine Below.drew ?_ | refine below_drewN ?_ _ | refine Below.alloc ?_ (by first | omega | (simp; done) | (simp; omega)) _ | refine Below.setCell ?_ (by first | omega | (simp; done) | (simp; omega)) _ | refine Below.trans ?_ (Below.mono (by assumption) (by first | omega | (simp; done) | (simp; omega)))))
    have hr78 := hr7.of_block (hb8.block _ hr7.lt)
    have I8 := I7.below hb8
    have ho8 := own_below ho7 hb8
    have J8 := J7.below hb8
    have s8 := row_pairs hr8
    clear hr7 I7 ho7 hr8 J7
    go_wp2_with fail
    refine (eqSpotS_same _ _ _ _ l hl (row_pairs hr78) s8).mono ?_
    rintro e w9 ⟨rfl, hb9⟩
    have hs9 := hb9.size; (try simp at hs9); have hB9 : Below w.heap.size w w9 := (by repeat (first | exact Below.refl _ _ | assumption | refine Below.drew ?_ | refine below_drewN ?_ _ | refine Below.alloc ?_ (by first | omega | (simp; done) | (simp; omega)) _ | refine Below.setCell ?_ (by first | omega | (simp; done) | (simp; omega)) _ | refine Below.trans ?_ (Below.mono (by assumption) (by first | omega | (simp; done) | (simp; omega)))))
    have hr9 := hr78.of_block (hb9.block _ hr78.lt)
    have I9 := I8.below hb9
    have ho9 := own_below ho8 hb9
    have J9 := J8.below hb9
    clear hr78 I8 ho8 s8 J8
    go_wp2_with fail
    refine (markSpotS_row _ l.length _ _ hl hr9).mono ?_
    rintro e w10 ⟨rfl, hg10⟩
    have hup10 : ∀ k, some w3.heap.size = some k → w.heap.size ≤ k := fun k e => by have := Option.some.inj e; omega
    have hs10 := hg10.size; have hB10 : Below w.heap.size w w10 := hB9.grown hg10 (by omega) hup10
    have I10 := ints_other I9 hg10 (fun z hz e => by have h1 := HA0.out z hz; have h2 := Option.some.inj e; omega)
    have J10 := ints_other J9 hg10 (fun z hz e => by have h1 := HA1.out z hz; have h2 := Option.some.inj e; omega)
    have ho10 : OwnInts w10 w4.heap.size (.slice a1 xs.length cap1) xs := World.ownsRow.kept ho9 hg10 (by
      cases h : a1 with
      | none => exact .inl rfl
      | some z => exact .inr (fun e => by have h1 := HA1.out z h; have h2 := Option.some.inj e; omega))
    clear hr9 I9 J9 ho9 hup10 hg10
    go_wp2_with fail
    refine (eqIntS_same a1 a0 cap1 cap0 xs hxl J10 I10).mono ?_
    rintro e w11 ⟨rfl, hb11⟩
    have hs11 := hb11.size; (try simp at hs11); have hB11 : Below w.heap.size w w11 := (by repeat (first | exact Below.refl _ _ | assumption | refine Below.drew ?_ | refine below_drewN ?_ _ | refine Below.alloc ?_ (by first | omega | (simp; done) | (simp; omega)) _ | refine Below.setCell ?_ (by first | omega | (simp; done) | (simp; omega)) _ | refine Below.trans ?_ (Below.mono (by assumption) (by first | omega | (simp; done) | (simp; omega)))))
    have I11 := I10.below hb11
    have ho11 := own_below ho10 hb11
    clear I10 J10 ho10
    go_wp2_with fail
    refine (markIntS_any a1 w4.heap.size cap1 xs hxl ho11).mono ?_
    rintro e w12 ⟨rfl, M12, hg12⟩
    have hup12 : ∀ k, a1.map (·.block) = some k → w.heap.size ≤ k := fun k e => by
      cases h : a1 with
      | none => rw [h] at e; cases e
      | some z => rw [h] at e; have h1 := HA1.out z h; have h2 : z.block = k := Option.some.inj e; omega
    have hs12 := hg12.size; have hB12 : Below w.heap.size w w12 := hB11.grown hg12 (by omega) hup12
    have I12 := ints_other I11 hg12 (fun z hz e => by
      cases h : a1 with
      | none => rw [h] at e; cases e
      | some z' => rw [h] at e; have h0 := HA0.out z hz; have h1 := HA1.out z' h; have h2 : z.block = z'.block := Option.some.inj e; omega)
    clear I11 ho11 hup12 hg12
    go_wp2_with fail
    refine (heldIntS_ones a1 cap1 xs.length hxl M12).mono ?_
    rintro e w' ⟨rfl, rfl⟩
    go_wp2_with fail
    refine (toSpotS_any a cap l hl (ha.below hB12)).mono ?_
    rintro e w14 ⟨rfl, hr14, hb14⟩
    have hs14 := hb14.size; (try simp at hs14); have hB14 : Below w.heap.size w w14 := (by repeat (first | exact Below.refl _ _ | assumption | refine Below.drew ?_ | refine below_drewN ?_ _ | refine Below.alloc ?_ (by first | omega | (simp; done) | (simp; omega)) _ | refine Below.setCell ?_ (by first | omega | (simp; done) | (simp; omega)) _ | refine Below.trans ?_ (Below.mono (by assumption) (by first | omega | (simp; done) | (simp; omega)))))
    have I14 := I12.below hb14
    have M14 := M12.below hb14
    have s14 := row_pairs hr14
    clear I12 M12 hr14
    go_wp2_with fail
    refine (ordI_any _ _ l hl s14 ).mono ?_
    rintro e w15 ⟨v2, rfl, ho15, hb15⟩
    rw [← Hxs.out] at ho15
    rw [← Hok.out]
    have hs15 := hb15.size; (try simp at hs15); have hB15 : Below w.heap.size w w15 := (by repeat (first | exact Below.refl _ _ | assumption | refine Below.drew ?_ | refine below_drewN ?_ _ | refine Below.alloc ?_ (by first | omega | (simp; done) | (simp; omega)) _ | refine Below.setCell ?_ (by first | omega | (simp; done) | (simp; omega)) _ | refine Below.trans ?_ (Below.mono (by assumption) (by first | omega | (simp; done) | (simp; omega)))))
    have I15 := I14.below hb15
    have M15 := M14.below hb15
    clear I14 M14 s14
    obtain ⟨a2, cap2, rfl, J15, _⟩ := own_viewI ho15
    clear ho15
    go_wp2_with fail
    refine (eqIntS_same a2 a0 cap2 cap0 xs hxl J15 I15).mono ?_
    rintro e w16 ⟨rfl, hb16⟩
    have hs16 := hb16.size; (try simp at hs16); have hB16 : Below w.heap.size w w16 := (by repeat (first | exact Below.refl _ _ | assumption | refine Below.drew ?_ | refine below_drewN ?_ _ | refine Below.alloc ?_ (by first | omega | (simp; done) | (simp; omega)) _ | refine Below.setCell ?_ (by first | omega | (simp; done) | (simp; omega)) _ | refine Below.trans ?_ (Below.mono (by assumption) (by first | omega | (simp; done) | (simp; omega)))))
    have M16 := M15.below hb16
    clear I15 M15 J15
    go_wp2_with fail
    refine (heldIntS_ones a1 cap1 xs.length hxl M16).mono ?_
    rintro e w' ⟨rfl, rfl⟩
    go_wp2_with fail
    go_ret
    exact ⟨rfl, hB16⟩

theorem ordaL0_law (a : Option Addr) (cap : Nat) (l : List (Int × Int)) (hm : l.length ≤ 9223372036854775807) (w : World) (ha : PairsAt w a l) :
    Calls Try.prog 12 #[.slice a l.length cap] w fun e w' => e = .returned (.bool true) ∧ Below w.heap.size w w' := by
  by_cases hl : l.length ≤ 1048576
  · exact ordaL0_fits  a cap l hl w ha
  · exact ordaL0_over  a cap l (by omega) hm w

set_option maxRecDepth 100000 in
theorem ordaL0_holds : Rows.FnExactOrderAlongSaid :=
  OpenClaim.holds_of_wide 12 Try.f12 rfl rfl rfl rfl rfl rfl rfl ⟨rfl, rfl, rfl, rfl, rfl⟩ rfl rfl rfl rfl rfl (by kernel_rfl) Try.func12 (by kernel_rfl)
    (of_decide_eq_true (by kernel_rfl)) (by unfold Func.isWrapper; rw [if_neg (of_decide_eq_false (by kernel_rfl))]; exact ⟨rfl, rfl⟩)
    (fun os started H enc _ => law_lifted (C := Try.checked) (s := Rows.fnExactOrderAlongSpec) Try.own started (by kernel_rfl) Try.func12
      (ChangeSpec.witness6 (enc := enc) (C := Try.checked) false ⟨#[], #[.slice none 0 0], []⟩ 8 (by kernel_rfl) (by kernel_rfl) (by kernel_rfl) (by kernel_rfl))
      Try.laidOut (by kernel_rfl) rfl Try.underlying4 rfl
      (fun W base args ds p hval hA hlt => by
        have hA' : DataW.TrodAll enc Try.prog W 0 (fun _ => true) true Try.f12.params.toList args.toList ds p := hA
        have hval' : ∀ (j : Nat) t v, Try.f12.params[j]? = some t → args[j]? = some v → Value.okWide Try.prog W .any base t v := hval
        rw [Try.params12] at hA' hval'
        obtain ⟨v0, d0, rfl, rfl, h0⟩ := trodAll_one hA'
        obtain ⟨a, cap, l, rfl, ha, hm⟩ := open_SpotS (hval' 0 _ v0 rfl rfl) h0
        exact ⟨rfl, ordaL0_law  a cap l hm W ha⟩))

end Go.Proofs.Ytfimjfchdaioeaa
