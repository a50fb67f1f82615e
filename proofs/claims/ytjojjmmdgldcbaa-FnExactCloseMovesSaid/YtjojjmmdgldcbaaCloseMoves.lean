/- The exact law of CloseMoves. No conditions. -/
import Derived.Test.YtjojjmmdgldcbaaApMI
import Derived.Test.YtjojjmmdgldcbaaOpenMvs
import Derived.Deep.RegionHeld3
import Derived.Deep.DeepCutAuto
import Derived.Deep.DrawnRows
namespace Go.Proofs.Ytjojjmmdgldcbaa
open Go.ChangeShapes Go.WideShapes Go.ChangeAt Go.RowKit


attribute [local go_sem ↓] Go.wp_at_zero Go.wp_at_succ

theorem specClsU (a : Option Addr) (cap : Nat) (l : List (Int × Int × Int × Int × Int)) (hl : l.length ≤ 1048576) (L : Int) {w : World} (ha : MovesAt w a l) :
    Calls Try.prog 40 #[.slice a l.length cap, .int .i64 L] w fun e w' => ∃ v, e = .returned (.tuple #[v, .bool (cmOk l L)]) ∧ (∃ Z, OwnZ w' w.heap.size v Z ∧ rowsL Z = prL (closeMs l L)) ∧ Below w.heap.size w w' := specClsM_any a cap l hl L ha
theorem clsU (a : Option Addr) (cap : Nat) (l : List (Int × Int × Int × Int × Int)) (hl : l.length ≤ 1048576) (L : Int) {w : World} (ha : MovesAt w a l) :
    Calls Try.prog 39 #[.slice a l.length cap, .int .i64 L] w fun e w' => ∃ v, e = .returned (.tuple #[v, .bool (cmOk l L)]) ∧ (∃ Z, OwnZ w' w.heap.size v Z ∧ rowsL Z = prL (closeMs l L)) ∧ Below w.heap.size w w' := clsM_any a cap l hl L ha
theorem closeMs_len (l : List (Int × Int × Int × Int × Int)) (L : Int) : (closeMs l L).length ≤ 144 := by
  unfold closeMs
  split
  · rename_i h
    unfold cmOk at h
    rw [Bool.and_eq_true] at h
    obtain ⟨_, n12, _⟩ := mvsOk_iff h.1
    have h1 := List.length_filter_le (cl2 l L) (allP2 l.length)
    have h2 := pall_len l.length l.length
    have h3 : l.length * l.length ≤ 12 * 12 := Nat.mul_le_mul n12 n12
    have h4 : (allP2 l.length).length ≤ 144 := Nat.le_trans h2 h3
    omega
  · simp
set_option maxHeartbeats 2000000 in
theorem clsL0_over (L : Int) (a : Option Addr) (cap : Nat) (l : List (Int × Int × Int × Int × Int)) (hl : 1048576 < l.length) (hm : l.length ≤ 9223372036854775807) (w : World) :
    Calls Try.prog 11 #[.slice a l.length cap, .int .i64 L] w fun e w' => e = .returned (.bool true) ∧ Below w.heap.size w w' := by
  go_enter Try.func11, Try.ntmps11
  go_wp2_with fail
  refine (szMoveS_over a cap l.length hl hm _).mono ?_
  rintro e w' ⟨rfl, rfl⟩
  go_wp2_with fail
  go_ret
  exact ⟨rfl, (by repeat (first | exact Below.refl _ _ | assumption | refine Below.drew ?_ | refine below_drewN ?_ _ | refine Below.alloc ?_ (by first | omega | (simp; done) | (simp; omega)) _ | refine Below.setCell ?_ (by first | omega | (simp; done) | (simp; omega)) _ | refine Below.trans ?_ (Below.mono (by assumption) (by first | omega | (simp; done) | (simp; omega)))))⟩

set_option maxRecDepth 100000 in
set_option maxHeartbeats 8000000 in
theorem clsL0_fits (L : Int) (a : Option Addr) (cap : Nat) (l : List (Int × Int × Int × Int × Int)) (hl : l.length ≤ 1048576) (w : World) (ha : MovesAt w a l) :
    Calls Try.prog 11 #[.slice a l.length cap, .int .i64 L] w fun e w' => e = .returned (.bool true) ∧ Below w.heap.size w w' := by
  have hpl := closeMs_len l L
  obtain ⟨ps, hps⟩ : ∃ ps, ps = closeMs l L := ⟨_, rfl⟩
  obtain ⟨ok, hok⟩ : ∃ ok, ok = cmOk l L := ⟨_, rfl⟩
  rw [← hps] at hpl
  have Hps := Lib.hid hps
  have Hok := Lib.hid hok
  have hxl : (prL ps).length ≤ 1048576 := by rw [prL_len]; omega
  have hxr : ∀ r ∈ prL ps, r.length ≤ 1048576 := fun r hr => by
    obtain ⟨p, _, rfl⟩ := List.mem_map.1 hr
    simp
  have hB0 : Below w.heap.size w w := Below.refl _ _
  clear hps hok
  go_enter Try.func11, Try.ntmps11
  go_wp2_with fail
  refine (szMoveS_fits a cap l.length hl _).mono ?_
  rintro e w' ⟨rfl, rfl⟩
  go_wp2_with fail
  refine (toMoveS_any a cap l hl (ha.below hB0)).mono ?_
  rintro e w2 ⟨rfl, hr2, hb2⟩
  have hs2 := hb2.size; (try simp at hs2); have hB2 : Below w.heap.size w w2 := (by repeat (first | exact Below.refl _ _ | assumption | refine Below.drew ?_ | refine below_drewN ?_ _ | refine Below.alloc ?_ (by first | omega | (simp; done) | (simp; omega)) _ | refine Below.setCell ?_ (by first | omega | (simp; done) | (simp; omega)) _ | refine Below.trans ?_ (Below.mono (by assumption) (by first | omega | (simp; done) | (simp; omega)))))
  have s2 := row_moves hr2
  clear hr2
  go_wp2_with fail
  refine (specClsU _ _ l hl L s2).mono ?_
  rintro e w3 ⟨v0, rfl, ⟨Z0, hZ0, hr0⟩, hb3⟩
  rw [← Hps.out] at hr0
  rw [← Hok.out]
  have hs3 := hb3.size; (try simp at hs3); have hB3 : Below w.heap.size w w3 := (by repeat (first | exact Below.refl _ _ | assumption | refine Below.drew ?_ | refine below_drewN ?_ _ | refine Below.alloc ?_ (by first | omega | (simp; done) | (simp; omega)) _ | refine Below.setCell ?_ (by first | omega | (simp; done) | (simp; omega)) _ | refine Below.trans ?_ (Below.mono (by assumption) (by first | omega | (simp; done) | (simp; omega)))))
  clear s2
  obtain ⟨a0, cap0, rfl, I3⟩ := hZ0.view
  rw [hr0] at I3 ⊢
  clear hZ0 hr0 Z0
  go_wp2_with fail
  refine (toMoveS_any a cap l hl (ha.below hB3)).mono ?_
  rintro e w4 ⟨rfl, hr4, hb4⟩
  have hs4 := hb4.size; (try simp at hs4); have hB4 : Below w.heap.size w w4 := (by repeat (first | exact Below.refl _ _ | assumption | refine Below.drew ?_ | refine below_drewN ?_ _ | refine Below.alloc ?_ (by first | omega | (simp; done) | (simp; omega)) _ | refine Below.setCell ?_ (by first | omega | (simp; done) | (simp; omega)) _ | refine Below.trans ?_ (Below.mono (by assumption) (by first | omega | (simp; done) | (simp; omega)))))
  have hr4l := hr4.lt
  have s4 := row_moves hr4
  have I4 := I3.below hb4
  clear I3
  go_wp2_with fail
  refine (clsU _ _ l hl L s4).mono ?_
  rintro e w6 ⟨v1, rfl, ⟨Z1, hZ1, hr1⟩, hb6⟩
  rw [← Hps.out] at hr1
  rw [← Hok.out]
  have hs6 := hb6.size; (try simp at hs6); have hB6 : Below w.heap.size w w6 := (by repeat (first | exact Below.refl _ _ | assumption | refine Below.drew ?_ | refine below_drewN ?_ _ | refine Below.alloc ?_ (by first | omega | (simp; done) | (simp; omega)) _ | refine Below.setCell ?_ (by first | omega | (simp; done) | (simp; omega)) _ | refine Below.trans ?_ (Below.mono (by assumption) (by first | omega | (simp; done) | (simp; omega)))))
  have hr6 := hr4.of_block (hb6.block _ hr4.lt)
  have I6 := I4.below hb6
  clear hr4 I4 s4
  obtain ⟨a1, cap1, rfl, J6⟩ := hZ1.view
  have hz2 := rows_two hr1
  have hzn : Z1.length = (prL ps).length := by rw [← hr1, rowsL_length]
  rw [hr1] at J6 hZ1 ⊢
  have hzs := sumR_two hz2 (prL ps).length
  have hzs2 : sumR Z1 (prL ps).length ≤ 1000000 := by have := prL_len ps; omega
  have hzl : (prL ps).length ≤ 1000 := by rw [prL_len]; omega
  have hzr : ∀ z ∈ Z1, z.2.length ≤ 1000 := fun z hz => by rw [hz2 z hz]; omega
  obtain ⟨XS, hXS⟩ : ∃ x, x = prL ps := ⟨_, rfl⟩
  have HXS := Lib.hid hXS
  clear hr1 hz2 hzs
  rw [← hXS] at hxl hxr hzn hzl hzs2 J6 hZ1 I6 ⊢
  have HEQ := Lib.hid (fun (x y : Option Addr) (cx cy : Nat) (W : World) (lo hi lo' hi' : Nat) (h1 : MatAt W lo hi x XS) (h2 : MatAt W lo' hi' y XS) => eqIntSS_same x y cx cy XS hxl hxr h1 h2)
  have HMK := Lib.hid (fun (W : World) (h : OwnZ W w4.heap.size (.slice a1 XS.length cap1) Z1) => markIntSS_n w4.heap.size a1 cap1 XS.length Z1 hzn hzl hzr hzs2 h)
  have HHE := Lib.hid (fun (W : World) (lo hi : Nat) (h : MatAt W lo hi a1 (marksL Z1)) => heldIntSS_n a1 cap1 XS.length Z1 hzn hzl hzr hzs2 h)
  obtain ⟨q, hq⟩ : ∃ q, q = sumR Z1 XS.length := ⟨_, rfl⟩
  rw [← hq] at HMK HHE
  have q0 : ¬ (1 : Int) + (q : Int) < 0 := by omega
  clear hzs2 hq hXS hzn hzr
  go_wp2_with fail
  refine (HEQ.out a1 a0 cap1 cap0 _ _ _ _ _ J6 I6).mono ?_
  rintro e w7 ⟨rfl, hb7⟩
  have hs7 := hb7.size; (try simp at hs7); have hB7 : Below w.heap.size w w7 := (by repeat (first | exact Below.refl _ _ | assumption | refine Below.drew ?_ | refine below_drewN ?_ _ | refine Below.alloc ?_ (by first | omega | (simp; done) | (simp; omega)) _ | refine Below.setCell ?_ (by first | omega | (simp; done) | (simp; omega)) _ | refine Below.trans ?_ (Below.mono (by assumption) (by first | omega | (simp; done) | (simp; omega)))))
  have hr7 := hr6.of_block (hb7.block _ hr6.lt)
  have I7 := I6.below hb7
  have J7 := J6.below hb7
  have hZ7 := hZ1.below hb7
  clear hr6 I6 J6 hZ1
  cases ok
  all_goals
    go_wp2_with fail
    refine (toMoveS_any a cap l hl (ha.below hB7)).mono ?_
    rintro e w8 ⟨rfl, hr8, hb8⟩
    have hs8 := hb8.size; (try simp at hs8); have hB8 : Below w.heap.size w w8 := (by repeat (first | exact Below.refl _ _ | assumption | refine Below.drew ?_ | refine below_drewN ?_ _ | refine Below.alloc ?_ (by first | omega | (simp; done) | (simp; omega)) _ | refine Below.setCell ?_ (by first | omega | (simp; done) | (simp; omega)) _ | refine Below.trans ?_ (Below.mono (by assumption) (by first | omega | (simp; done) | (simp; omega)))))
    have hr78 := hr7.of_block (hb8.block _ hr7.lt)
    have I8 := I7.below hb8
    have J8 := J7.below hb8
    have hZ8 := hZ7.below hb8
    have s8 := row_moves hr8
    clear hr7 I7 J7 hZ7 hr8
    go_wp2_with fail
    refine (eqMoveS_same _ _ _ _ l hl (row_moves hr78) s8).mono ?_
    rintro e w9 ⟨rfl, hb9⟩
    have hs9 := hb9.size; (try simp at hs9); have hB9 : Below w.heap.size w w9 := (by repeat (first | exact Below.refl _ _ | assumption | refine Below.drew ?_ | refine below_drewN ?_ _ | refine Below.alloc ?_ (by first | omega | (simp; done) | (simp; omega)) _ | refine Below.setCell ?_ (by first | omega | (simp; done) | (simp; omega)) _ | refine Below.trans ?_ (Below.mono (by assumption) (by first | omega | (simp; done) | (simp; omega)))))
    have hr9 := hr78.of_block (hb9.block _ hr78.lt)
    have I9 := I8.below hb9
    have J9 := J8.below hb9
    have hZ9 := hZ8.below hb9
    clear hr78 I8 J8 hZ8 s8
    go_wp2_with fail
    refine (markMoveS_row _ l.length _ _ hl hr9).mono ?_
    rintro e w10 ⟨rfl, hg10⟩
    have hup10 : ∀ k, some w3.heap.size = some k → w.heap.size ≤ k := fun k e => by have := Option.some.inj e; omega
    have hs10 := hg10.size
    have hB10 : Below w.heap.size w w10 := hB9.grown hg10 (by omega) hup10
    have I10 := I9.other hg10 (fun z hz => by have := Option.some.inj hz; omega)
    have J10 := J9.other hg10 (fun z hz => by have := Option.some.inj hz; omega)
    have hZ10 := hZ9.kept hg10 (fun z hz => by have := Option.some.inj hz; omega)
    clear hr9 I9 J9 hZ9 hup10 hg10
    go_wp2_with fail
    refine (HEQ.out a1 a0 cap1 cap0 _ _ _ _ _ J10 I10).mono ?_
    rintro e w11 ⟨rfl, hb11⟩
    have hs11 := hb11.size; (try simp at hs11); have hB11 : Below w.heap.size w w11 := (by repeat (first | exact Below.refl _ _ | assumption | refine Below.drew ?_ | refine below_drewN ?_ _ | refine Below.alloc ?_ (by first | omega | (simp; done) | (simp; omega)) _ | refine Below.setCell ?_ (by first | omega | (simp; done) | (simp; omega)) _ | refine Below.trans ?_ (Below.mono (by assumption) (by first | omega | (simp; done) | (simp; omega)))))
    have I11 := I10.below hb11
    have hZ11 := hZ10.below hb11
    clear I10 J10 hZ10
    go_wp2_with fail
    refine (HMK.out _ hZ11).mono ?_
    rintro e w12 ⟨rfl, M12, hb12⟩
    have hs12 := hb12.size
    have hB12 : Below w.heap.size w w12 := hB11.trans (hb12.mono (by omega))
    have I12 := I11.since hb12 (by omega)
    clear I11 hZ11 hb12
    go_wp2_with fail
    refine (HHE.out _ _ _ M12).mono ?_
    rintro e w' ⟨rfl, rfl⟩
    go_wp2_with fail
    refine (toMoveS_any a cap l hl (ha.below hB12)).mono ?_
    rintro e w13 ⟨rfl, hr13, hb13⟩
    have hs13 := hb13.size; (try simp at hs13); have hB13 : Below w.heap.size w w13 := (by repeat (first | exact Below.refl _ _ | assumption | refine Below.drew ?_ | refine below_drewN ?_ _ | refine Below.alloc ?_ (by first | omega | (simp; done) | (simp; omega)) _ | refine Below.setCell ?_ (by first | omega | (simp; done) | (simp; omega)) _ | refine Below.trans ?_ (Below.mono (by assumption) (by first | omega | (simp; done) | (simp; omega)))))
    have s13 := row_moves hr13
    have I13 := I12.below hb13
    have M13 := M12.below hb13
    clear hr13 I12 M12
    go_wp2_with fail
    refine (clsU _ _ l hl L s13).mono ?_
    rintro e w15 ⟨v2, rfl, ⟨Z2, hZ2, hr2⟩, hb15⟩
    rw [← Hps.out, ← HXS.out] at hr2
    rw [← Hok.out]
    have hs15 := hb15.size; (try simp at hs15); have hB15 : Below w.heap.size w w15 := (by repeat (first | exact Below.refl _ _ | assumption | refine Below.drew ?_ | refine below_drewN ?_ _ | refine Below.alloc ?_ (by first | omega | (simp; done) | (simp; omega)) _ | refine Below.setCell ?_ (by first | omega | (simp; done) | (simp; omega)) _ | refine Below.trans ?_ (Below.mono (by assumption) (by first | omega | (simp; done) | (simp; omega)))))
    have I15 := I13.below hb15
    have M15 := M13.below hb15
    clear I13 M13 s13
    obtain ⟨a2, cap2, rfl, J15⟩ := hZ2.view
    rw [hr2] at J15 ⊢
    clear hZ2 hr2 Z2
    go_wp2_with fail
    refine (HEQ.out a2 a0 cap2 cap0 _ _ _ _ _ J15 I15).mono ?_
    rintro e w16 ⟨rfl, hb16⟩
    have hs16 := hb16.size; (try simp at hs16); have hB16 : Below w.heap.size w w16 := (by repeat (first | exact Below.refl _ _ | assumption | refine Below.drew ?_ | refine below_drewN ?_ _ | refine Below.alloc ?_ (by first | omega | (simp; done) | (simp; omega)) _ | refine Below.setCell ?_ (by first | omega | (simp; done) | (simp; omega)) _ | refine Below.trans ?_ (Below.mono (by assumption) (by first | omega | (simp; done) | (simp; omega)))))
    have M16 := M15.below hb16
    clear I15 M15 J15
    go_wp2_with fail
    refine (HHE.out _ _ _ M16).mono ?_
    rintro e w' ⟨rfl, rfl⟩
    go_wp2_with fail
    go_ret
    exact ⟨rfl, hB16⟩

theorem clsL0_law (L : Int) (a : Option Addr) (cap : Nat) (l : List (Int × Int × Int × Int × Int)) (hm : l.length ≤ 9223372036854775807) (w : World) (ha : MovesAt w a l) :
    Calls Try.prog 11 #[.slice a l.length cap, .int .i64 L] w fun e w' => e = .returned (.bool true) ∧ Below w.heap.size w w' := by
  by_cases hl : l.length ≤ 1048576
  · exact clsL0_fits L a cap l hl w ha
  · exact clsL0_over L a cap l (by omega) hm w

set_option maxRecDepth 100000 in
theorem clsL0_holds : Rows.FnExactCloseMovesSaid :=
  OpenClaim.holds_of_wide 11 Try.f11 rfl rfl rfl rfl rfl rfl rfl ⟨rfl, rfl, rfl, rfl, rfl⟩ rfl rfl rfl rfl rfl (by kernel_rfl) Try.func11 (by kernel_rfl)
    (of_decide_eq_true (by kernel_rfl)) (by unfold Func.isWrapper; rw [if_neg (of_decide_eq_false (by kernel_rfl))]; exact ⟨rfl, rfl⟩)
    (fun os started H enc _ => law_lifted (C := Try.checked) (s := Rows.fnExactCloseMovesSpec) Try.own started (by kernel_rfl) Try.func11
      (ChangeSpec.witness6 (enc := enc) (C := Try.checked) false ⟨#[], #[.slice none 0 0, .int .i64 0], []⟩ 8 (by kernel_rfl) (by kernel_rfl) (by kernel_rfl) (by kernel_rfl))
      Try.laidOut (by kernel_rfl) rfl Try.underlying4 rfl
      (fun W base args ds p hval hA hlt => by
        have hA' : DataW.TrodAll enc Try.prog W 0 (fun _ => true) true Try.f11.params.toList args.toList ds p := hA
        have hval' : ∀ (j : Nat) t v, Try.f11.params[j]? = some t → args[j]? = some v → Value.okWide Try.prog W .any base t v := hval
        rw [Try.params11] at hA' hval'
        obtain ⟨v0, v1, d0, d1, p0, p1, rfl, rfl, rfl, h0, h1⟩ := trodAll_two hA'
        obtain ⟨a, cap, l, rfl, ha, hm⟩ := open_MoveS (hval' 0 _ v0 rfl rfl) h0
        obtain ⟨L, rfl, rfl, rfl, wfL⟩ := open_int Try.underlying3 (hval' 1 _ v1 rfl rfl) h1
        exact ⟨rfl, clsL0_law L a cap l hm W ha⟩))

end Go.Proofs.Ytjojjmmdgldcbaa
