/- The exact law of SameForm holds at every argument. No conditions. -/
import Derived.Test.YtfimjfchdaioeaaChSame
import Derived.Test.YtfimjfchdaioeaaMk2Spot
import Derived.Test.YtfimjfchdaioeaaEqSpot
import Derived.Test.YtfimjfchdaioeaaMkSpot
import Derived.Test.YtfimjfchdaioeaaOpenSpot
namespace Go.Proofs.Ytfimjfchdaioeaa
open Go.ChangeShapes Go.WideShapes Go.ChangeAt Go.RowKit


set_option maxHeartbeats 8000000 in
theorem sameL0_over1 (a : Option Addr) (capA : Nat) (l1 : List (Int × Int)) (b : Option Addr) (capB : Nat) (l2 : List (Int × Int)) (hl : 1048576 < l1.length) (hm : l1.length ≤ 9223372036854775807) (w : World) :
    Calls Try.prog 11 #[.slice a l1.length capA, .slice b l2.length capB] w fun e w' => e = .returned (.bool true) ∧ Below w.heap.size w w' := by
  go_enter Try.func11, Try.ntmps11
  go_wp2_with fail
  refine (szSpotS_over a capA l1.length hl hm _).mono ?_
  rintro e w' ⟨rfl, rfl⟩
  go_wp2_with fail
  go_ret
  exact ⟨rfl, (by repeat (first | exact Below.refl _ _ | assumption | refine Below.drew ?_ | refine below_drewN ?_ _ | refine Below.alloc ?_ (by first | omega | (simp; done) | (simp; omega)) _ | refine Below.setCell ?_ (by first | omega | (simp; done) | (simp; omega)) _ | refine Below.trans ?_ (Below.mono (by assumption) (by first | omega | (simp; done) | (simp; omega)))))⟩

set_option maxHeartbeats 8000000 in
theorem sameL0_over2 (a : Option Addr) (capA : Nat) (l1 : List (Int × Int)) (b : Option Addr) (capB : Nat) (l2 : List (Int × Int)) (hl1 : l1.length ≤ 1048576) (hl : 1048576 < l1.length + l2.length) (hm : l2.length ≤ 9223372036854775807) (w : World) :
    Calls Try.prog 11 #[.slice a l1.length capA, .slice b l2.length capB] w fun e w' => e = .returned (.bool true) ∧ Below w.heap.size w w' := by
  have z1 : (0 : Int) ≤ 1048576 - (l1.length : Int) := by omega
  have z2 : ¬ ((1048576 : Int) - (l1.length : Int) < 0) := by omega
  go_enter Try.func11, Try.ntmps11
  go_wp2_with fail
  refine (szSpotS_fits a capA l1.length hl1 _).mono ?_
  rintro e w' ⟨rfl, rfl⟩
  go_wp2_with fail
  refine (szSpotS_overK b capB l2.length (1048576 - (l1.length : Int)) (by omega) (by omega) (by omega) hm _).mono ?_
  rintro e w' ⟨rfl, rfl⟩
  go_wp2_with fail
  go_ret
  exact ⟨rfl, (by repeat (first | exact Below.refl _ _ | assumption | refine Below.drew ?_ | refine below_drewN ?_ _ | refine Below.alloc ?_ (by first | omega | (simp; done) | (simp; omega)) _ | refine Below.setCell ?_ (by first | omega | (simp; done) | (simp; omega)) _ | refine Below.trans ?_ (Below.mono (by assumption) (by first | omega | (simp; done) | (simp; omega)))))⟩

set_option maxRecDepth 100000 in
set_option maxHeartbeats 4000000 in
theorem sameL0_fits (a : Option Addr) (capA : Nat) (l1 : List (Int × Int)) (b : Option Addr) (capB : Nat) (l2 : List (Int × Int)) (hl : l1.length + l2.length ≤ 1048576) (w : World) (ha : PairsAt w a l1) (hb : PairsAt w b l2) :
    Calls Try.prog 11 #[.slice a l1.length capA, .slice b l2.length capB] w fun e w' => e = .returned (.bool true) ∧ Below w.heap.size w w' := by
  have hl1 : l1.length ≤ 1048576 := by omega
  have hl2 : l2.length ≤ 1048576 := by omega
  have HSP := Lib.hid (fun (a : Option Addr) (b : Option Addr) (W : World) (s1 : PairsAt W a l1) (s2 : PairsAt W b l2) => sameS_any a l1.length l1 hl1 (Nat.le_refl _) b l2.length l2 hl2 (Nat.le_refl _) s1 s2)
  have HIM := Lib.hid (fun (a : Option Addr) (b : Option Addr) (W : World) (s1 : PairsAt W a l1) (s2 : PairsAt W b l2) => sameI_any a l1.length l1 hl1 b l2.length l2 hl2 s1 s2)
  obtain ⟨X, hX⟩ : ∃ z, z = sfB l1 l2 := ⟨_, rfl⟩
  simp only [← hX] at HSP HIM
  clear hX
  obtain ⟨Y, hY⟩ : ∃ z, z = sfO l1 l2 := ⟨_, rfl⟩
  simp only [← hY] at HSP HIM
  clear hY
  have hB0 : Below w.heap.size w w := Below.refl _ _
  have z1 : (0 : Int) ≤ 1048576 - (l1.length : Int) := by omega
  have z2 : ¬ ((1048576 : Int) - (l1.length : Int) < 0) := by omega
  have z3 : ¬ ((1048576 : Int) - (l1.length : Int) - (l2.length : Int) < 0) := by omega
  have z4 : (0 : Int) ≤ 1048576 - (l1.length : Int) - (l2.length : Int) := by omega
  go_enter Try.func11, Try.ntmps11
  go_wp2_with fail
  refine (szSpotS_fits a capA l1.length hl1 _).mono ?_
  rintro e w' ⟨rfl, rfl⟩
  go_wp2_with fail
  refine (szSpotS_fitsK b capB l2.length (1048576 - (l1.length : Int)) (by omega) (by omega) (by omega) _).mono ?_
  rintro e w' ⟨rfl, rfl⟩
  go_wp2_with fail
  refine (toSpotS_any a capA l1 hl1 (ha.below hB0)).mono ?_
  rintro e w1 ⟨rfl, hr1, hb1⟩
  have hs1 := hb1.size; (try simp at hs1); have hB1 : Below w.heap.size w w1 := (by repeat (first | exact Below.refl _ _ | assumption | refine Below.drew ?_ | refine below_drewN ?_ _ | refine Below.alloc ?_ (by first | omega | (simp; done) | (simp; omega)) _ | refine Below.setCell ?_ (by first | omega | (simp; done) | (simp; omega)) _ | refine Below.trans ?_ (Below.mono (by assumption) (by first | omega | (simp; done) | (simp; omega)))))
  have s1 := (row_pairs hr1)
  clear hr1
  go_wp2_with fail
  refine (toSpotS_any b capB l2 hl2 (hb.below hB1)).mono ?_
  rintro e w2 ⟨rfl, hr2, hb2⟩
  have hs2 := hb2.size; (try simp at hs2); have hB2 : Below w.heap.size w w2 := (by repeat (first | exact Below.refl _ _ | assumption | refine Below.drew ?_ | refine below_drewN ?_ _ | refine Below.alloc ?_ (by first | omega | (simp; done) | (simp; omega)) _ | refine Below.setCell ?_ (by first | omega | (simp; done) | (simp; omega)) _ | refine Below.trans ?_ (Below.mono (by assumption) (by first | omega | (simp; done) | (simp; omega)))))
  have s2 := (row_pairs hr2)
  have s12 := s1.below hb2
  clear hr2 s1
  go_wp2_with fail
  with_reducible refine (HSP.out _ _ _ s12 s2).mono ?_
  rintro e w3 ⟨rfl, hb3⟩
  have hs3 := hb3.size; (try simp at hs3); have hB3 : Below w.heap.size w w3 := (by repeat (first | exact Below.refl _ _ | assumption | refine Below.drew ?_ | refine below_drewN ?_ _ | refine Below.alloc ?_ (by first | omega | (simp; done) | (simp; omega)) _ | refine Below.setCell ?_ (by first | omega | (simp; done) | (simp; omega)) _ | refine Below.trans ?_ (Below.mono (by assumption) (by first | omega | (simp; done) | (simp; omega)))))
  clear s2 s12
  go_wp2_with fail
  refine (toSpotS_any a capA l1 hl1 (ha.below hB3)).mono ?_
  rintro e w4 ⟨rfl, hr4, hb4⟩
  have hs4 := hb4.size; (try simp at hs4); have hB4 : Below w.heap.size w w4 := (by repeat (first | exact Below.refl _ _ | assumption | refine Below.drew ?_ | refine below_drewN ?_ _ | refine Below.alloc ?_ (by first | omega | (simp; done) | (simp; omega)) _ | refine Below.setCell ?_ (by first | omega | (simp; done) | (simp; omega)) _ | refine Below.trans ?_ (Below.mono (by assumption) (by first | omega | (simp; done) | (simp; omega)))))
  have s4 := row_pairs hr4
  clear hr4
  go_wp2_with fail
  refine (toSpotS_any b capB l2 hl2 (hb.below hB4)).mono ?_
  rintro e w5 ⟨rfl, hr5, hb5⟩
  have hs5 := hb5.size; (try simp at hs5); have hB5 : Below w.heap.size w w5 := (by repeat (first | exact Below.refl _ _ | assumption | refine Below.drew ?_ | refine below_drewN ?_ _ | refine Below.alloc ?_ (by first | omega | (simp; done) | (simp; omega)) _ | refine Below.setCell ?_ (by first | omega | (simp; done) | (simp; omega)) _ | refine Below.trans ?_ (Below.mono (by assumption) (by first | omega | (simp; done) | (simp; omega)))))
  have s5 := row_pairs hr5
  have s45 := s4.below hb5
  clear hr5 s4
  go_wp2_with fail
  with_reducible refine (HIM.out _ _ _ s45 s5).mono ?_
  rintro e w6 ⟨rfl, hb6⟩
  have hs6 := hb6.size; (try simp at hs6); have hB6 : Below w.heap.size w w6 := (by repeat (first | exact Below.refl _ _ | assumption | refine Below.drew ?_ | refine below_drewN ?_ _ | refine Below.alloc ?_ (by first | omega | (simp; done) | (simp; omega)) _ | refine Below.setCell ?_ (by first | omega | (simp; done) | (simp; omega)) _ | refine Below.trans ?_ (Below.mono (by assumption) (by first | omega | (simp; done) | (simp; omega)))))
  have s6 := s45.below hb6
  have t6 := s5.below hb6
  clear s45 s5
  go_wp2_with fail
  refine (toSpotS_any a capA l1 hl1 (ha.below hB6)).mono ?_
  rintro e w7 ⟨rfl, hr7, hb7⟩
  have hs7 := hb7.size; (try simp at hs7); have hB7 : Below w.heap.size w w7 := (by repeat (first | exact Below.refl _ _ | assumption | refine Below.drew ?_ | refine below_drewN ?_ _ | refine Below.alloc ?_ (by first | omega | (simp; done) | (simp; omega)) _ | refine Below.setCell ?_ (by first | omega | (simp; done) | (simp; omega)) _ | refine Below.trans ?_ (Below.mono (by assumption) (by first | omega | (simp; done) | (simp; omega)))))
  have s7 := row_pairs hr7
  have u7 := s6.below hb7
  have t7 := t6.below hb7
  clear hr7 s6 t6
  go_wp2_with fail
  refine (eqSpotS_same _ _ _ _ l1 hl1 u7 s7).mono ?_
  rintro e w8 ⟨rfl, hb8⟩
  have hs8 := hb8.size; (try simp at hs8); have hB8 : Below w.heap.size w w8 := (by repeat (first | exact Below.refl _ _ | assumption | refine Below.drew ?_ | refine below_drewN ?_ _ | refine Below.alloc ?_ (by first | omega | (simp; done) | (simp; omega)) _ | refine Below.setCell ?_ (by first | omega | (simp; done) | (simp; omega)) _ | refine Below.trans ?_ (Below.mono (by assumption) (by first | omega | (simp; done) | (simp; omega)))))
  have t8 := t7.below hb8
  clear u7 s7 t7
  go_wp2_with fail
  refine (toSpotS_any b capB l2 hl2 (hb.below hB8)).mono ?_
  rintro e w9 ⟨rfl, hr9, hb9⟩
  have hs9 := hb9.size; (try simp at hs9); have hB9 : Below w.heap.size w w9 := (by repeat (first | exact Below.refl _ _ | assumption | refine Below.drew ?_ | refine below_drewN ?_ _ | refine Below.alloc ?_ (by first | omega | (simp; done) | (simp; omega)) _ | refine Below.setCell ?_ (by first | omega | (simp; done) | (simp; omega)) _ | refine Below.trans ?_ (Below.mono (by assumption) (by first | omega | (simp; done) | (simp; omega)))))
  have s9 := row_pairs hr9
  have t9 := t8.below hb9
  clear hr9 t8
  go_wp2_with fail
  refine (eqSpotS_same _ _ _ _ l2 hl2 t9 s9).mono ?_
  rintro e w10 ⟨rfl, hb10⟩
  go_wp2_with fail
  go_ret
  exact ⟨rfl, (by repeat (first | exact Below.refl _ _ | assumption | refine Below.drew ?_ | refine below_drewN ?_ _ | refine Below.alloc ?_ (by first | omega | (simp; done) | (simp; omega)) _ | refine Below.setCell ?_ (by first | omega | (simp; done) | (simp; omega)) _ | refine Below.trans ?_ (Below.mono (by assumption) (by first | omega | (simp; done) | (simp; omega)))))⟩


theorem sameL0_law (a : Option Addr) (capA : Nat) (l1 : List (Int × Int)) (b : Option Addr) (capB : Nat) (l2 : List (Int × Int)) (hm1 : l1.length ≤ 9223372036854775807) (hm2 : l2.length ≤ 9223372036854775807) (w : World) (ha : PairsAt w a l1) (hb : PairsAt w b l2) :
    Calls Try.prog 11 #[.slice a l1.length capA, .slice b l2.length capB] w fun e w' => e = .returned (.bool true) ∧ Below w.heap.size w w' := by
  by_cases hl1 : l1.length ≤ 1048576
  · by_cases hl : l1.length + l2.length ≤ 1048576
    · exact sameL0_fits  a capA l1 b capB l2 hl w ha hb
    · exact sameL0_over2  a capA l1 b capB l2 hl1 (by omega) hm2 w
  · exact sameL0_over1  a capA l1 b capB l2 (by omega) hm1 w

set_option maxRecDepth 100000 in
theorem sameL0_holds : Rows.FnExactSameFormSaid :=
  OpenClaim.holds_of_wide 11 Try.f11 rfl rfl rfl rfl rfl rfl rfl ⟨rfl, rfl, rfl, rfl, rfl⟩ rfl rfl rfl rfl rfl (by kernel_rfl) Try.func11 (by kernel_rfl)
    (of_decide_eq_true (by kernel_rfl)) (by unfold Func.isWrapper; rw [if_neg (of_decide_eq_false (by kernel_rfl))]; exact ⟨rfl, rfl⟩)
    (fun os started H enc _ => law_lifted (C := Try.checked) (s := Rows.fnExactSameFormSpec) Try.own started (by kernel_rfl) Try.func11
      (ChangeSpec.witness6 (enc := enc) (C := Try.checked) false ⟨#[], #[.slice none 0 0, .slice none 0 0], []⟩ 8 (by kernel_rfl) (by kernel_rfl) (by kernel_rfl) (by kernel_rfl))
      Try.laidOut (by kernel_rfl) rfl Try.underlying4 rfl
      (fun W base args ds p hval hA hlt => by
        have hA' : DataW.TrodAll enc Try.prog W 0 (fun _ => true) true Try.f11.params.toList args.toList ds p := hA
        have hval' : ∀ (j : Nat) t v, Try.f11.params[j]? = some t → args[j]? = some v → Value.okWide Try.prog W .any base t v := hval
        rw [Try.params11] at hA' hval'
        obtain ⟨v0, v1, d0, d1, p0, p1, rfl, rfl, rfl, h0, h1⟩ := trodAll_two hA'
        obtain ⟨a, capA, l1, rfl, ha, hm1⟩ := open_SpotS (hval' 0 _ v0 rfl rfl) h0
        obtain ⟨b, capB, l2, rfl, hb, hm2⟩ := open_SpotS (hval' 1 _ v1 rfl rfl) h1
        exact ⟨rfl, sameL0_law  a capA l1 b capB l2 hm1 hm2 W ha hb⟩))

end Go.Proofs.Ytfimjfchdaioeaa
