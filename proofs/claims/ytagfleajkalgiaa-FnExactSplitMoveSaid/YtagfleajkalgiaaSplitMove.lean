/- The exact law of SplitMove. No conditions. -/
import Derived.Test.YtagfleajkalgiaaMvSpl
import Derived.Test.YtagfleajkalgiaaOpenMv
import Derived.Deep.RegionHeld3
import Derived.Deep.DeepCutAuto
import Derived.Deep.DrawnRows
namespace Go.Proofs.Ytagfleajkalgiaa
open Go.ChangeShapes Go.WideShapes Go.ChangeAt Go.RowKit


attribute [local go_sem ↓] Go.wp_at_zero Go.wp_at_succ

set_option maxRecDepth 100000 in
set_option maxHeartbeats 8000000 in
theorem splitL0_law (x1 y1 x1' y1' n1 k : Int) (w : World) :
    Calls Try.prog 8 #[.agg #[.int .i64 x1, .int .i64 y1, .int .i64 x1', .int .i64 y1', .int .i64 n1], .int .i64 k] w fun e w' => e = .returned (.bool true) ∧ Below w.heap.size w w' := by
  obtain ⟨q1, q2, q3, q4, q5, q6, q7⟩ := nadd
  have HSP := Lib.hid (fun W => specSplit_any x1 y1 x1' y1' n1 k W)
  have HIM := Lib.hid (fun W => split_any x1 y1 x1' y1' n1 k W)
  obtain ⟨U1, hU1⟩ : ∃ z, z = guardI (spOk x1 y1 x1' y1' n1 k) x1 := ⟨_, rfl⟩
  simp only [← hU1] at HSP HIM
  clear hU1
  obtain ⟨U2, hU2⟩ : ∃ z, z = guardI (spOk x1 y1 x1' y1' n1 k) y1 := ⟨_, rfl⟩
  simp only [← hU2] at HSP HIM
  clear hU2
  obtain ⟨U3, hU3⟩ : ∃ z, z = guardI (spOk x1 y1 x1' y1' n1 k) ((px x1 x1' n1 k).tdiv n1) := ⟨_, rfl⟩
  simp only [← hU3] at HSP HIM
  clear hU3
  obtain ⟨U4, hU4⟩ : ∃ z, z = guardI (spOk x1 y1 x1' y1' n1 k) ((px y1 y1' n1 k).tdiv n1) := ⟨_, rfl⟩
  simp only [← hU4] at HSP HIM
  clear hU4
  obtain ⟨U5, hU5⟩ : ∃ z, z = guardI (spOk x1 y1 x1' y1' n1 k) k := ⟨_, rfl⟩
  simp only [← hU5] at HSP HIM
  clear hU5
  obtain ⟨U6, hU6⟩ : ∃ z, z = guardI (spOk x1 y1 x1' y1' n1 k) x1' := ⟨_, rfl⟩
  simp only [← hU6] at HSP HIM
  clear hU6
  obtain ⟨U7, hU7⟩ : ∃ z, z = guardI (spOk x1 y1 x1' y1' n1 k) y1' := ⟨_, rfl⟩
  simp only [← hU7] at HSP HIM
  clear hU7
  obtain ⟨U8, hU8⟩ : ∃ z, z = guardI (spOk x1 y1 x1' y1' n1 k) (n1 - k) := ⟨_, rfl⟩
  simp only [← hU8] at HSP HIM
  clear hU8
  obtain ⟨ok, hok⟩ : ∃ z, z = (spOk x1 y1 x1' y1' n1 k) := ⟨_, rfl⟩
  simp only [← hok] at HSP HIM
  clear hok
  go_enter Try.func8, Try.ntmps8
  go_wp2_with (first | (go_at_call 13; (with_reducible refine (toMove_any _ _ _ _ _ _).mono ?_; rintro e w1 ⟨rfl, hb1⟩; have hs1 := hb1.size; (try simp at hs1); (first | have hk6 := call_facts hl5 hb1 (by first | (simp; done) | (simp; omega)) | skip); (first | have hk5 := call_facts hl4 hb1 (by first | (simp; done) | (simp; omega)) | skip); (first | have hk4 := call_facts hl3 hb1 (by first | (simp; done) | (simp; omega)) | skip); (first | have hk3 := call_facts hl2 hb1 (by first | (simp; done) | (simp; omega)) | skip); (first | have hk2 := call_facts hl1 hb1 (by first | (simp; done) | (simp; omega)) | skip); have hk1 := call_facts (fun b h => h) hb1 (Nat.le_refl _); (first | have hl6 := hk6.1 | skip); (first | have hl5 := hk5.1 | skip); (first | have hl4 := hk4.1 | skip); (first | have hl3 := hk3.1 | skip); (first | have hl2 := hk2.1 | skip); have hl1 := hk1.1; (first | have hm6 := far2 hl6 | skip); (first | have hm5 := far2 hl5 | skip); (first | have hm4 := far2 hl4 | skip); (first | have hm3 := far2 hl3 | skip); (first | have hm2 := far2 hl2 | skip); (first | have hm1 := far2 hl1 | skip))) | (go_at_call 25; (with_reducible refine (HSP.out _).mono ?_; rintro e w1 ⟨rfl, hb1⟩; have hs1 := hb1.size; (try simp at hs1); (first | have hk6 := call_facts hl5 hb1 (by first | (simp; done) | (simp; omega)) | skip); (first | have hk5 := call_facts hl4 hb1 (by first | (simp; done) | (simp; omega)) | skip); (first | have hk4 := call_facts hl3 hb1 (by first | (simp; done) | (simp; omega)) | skip); (first | have hk3 := call_facts hl2 hb1 (by first | (simp; done) | (simp; omega)) | skip); (first | have hk2 := call_facts hl1 hb1 (by first | (simp; done) | (simp; omega)) | skip); have hk1 := call_facts (fun b h => h) hb1 (Nat.le_refl _); (first | have hl6 := hk6.1 | skip); (first | have hl5 := hk5.1 | skip); (first | have hl4 := hk4.1 | skip); (first | have hl3 := hk3.1 | skip); (first | have hl2 := hk2.1 | skip); have hl1 := hk1.1; (first | have hm6 := far2 hl6 | skip); (first | have hm5 := far2 hl5 | skip); (first | have hm4 := far2 hl4 | skip); (first | have hm3 := far2 hl3 | skip); (first | have hm2 := far2 hl2 | skip); (first | have hm1 := far2 hl1 | skip))) | (go_at_call 26; (with_reducible refine (HIM.out _).mono ?_; rintro e w1 ⟨rfl, hb1⟩; have hs1 := hb1.size; (try simp at hs1); (first | have hk6 := call_facts hl5 hb1 (by first | (simp; done) | (simp; omega)) | skip); (first | have hk5 := call_facts hl4 hb1 (by first | (simp; done) | (simp; omega)) | skip); (first | have hk4 := call_facts hl3 hb1 (by first | (simp; done) | (simp; omega)) | skip); (first | have hk3 := call_facts hl2 hb1 (by first | (simp; done) | (simp; omega)) | skip); (first | have hk2 := call_facts hl1 hb1 (by first | (simp; done) | (simp; omega)) | skip); have hk1 := call_facts (fun b h => h) hb1 (Nat.le_refl _); (first | have hl6 := hk6.1 | skip); (first | have hl5 := hk5.1 | skip); (first | have hl4 := hk4.1 | skip); (first | have hl3 := hk3.1 | skip); (first | have hl2 := hk2.1 | skip); have hl1 := hk1.1; (first | have hm6 := far2 hl6 | skip); (first | have hm5 := far2 hl5 | skip); (first | have hm4 := far2 hl4 | skip); (first | have hm3 := far2 hl3 | skip); (first | have hm2 := far2 hl2 | skip); (first | have hm1 := far2 hl1 | skip))) | (go_at_call 24; (with_reducible refine (eqMove_same _ _ _ _ _ _).mono ?_; rintro e w1 ⟨rfl, hb1⟩; have hs1 := hb1.size; (try simp at hs1); (first | have hk6 := call_facts hl5 hb1 (by first | (simp; done) | (simp; omega)) | skip); (first | have hk5 := call_facts hl4 hb1 (by first | (simp; done) | (simp; omega)) | skip); (first | have hk4 := call_facts hl3 hb1 (by first | (simp; done) | (simp; omega)) | skip); (first | have hk3 := call_facts hl2 hb1 (by first | (simp; done) | (simp; omega)) | skip); (first | have hk2 := call_facts hl1 hb1 (by first | (simp; done) | (simp; omega)) | skip); have hk1 := call_facts (fun b h => h) hb1 (Nat.le_refl _); (first | have hl6 := hk6.1 | skip); (first | have hl5 := hk5.1 | skip); (first | have hl4 := hk4.1 | skip); (first | have hl3 := hk3.1 | skip); (first | have hl2 := hk2.1 | skip); have hl1 := hk1.1; (first | have hm6 := far2 hl6 | skip); (first | have hm5 := far2 hl5 | skip); (first | have hm4 := far2 hl4 | skip); (first | have hm3 := far2 hl3 | skip); (first | have hm2 := far2 hl2 | skip); (first | have hm1 := far2 hl1 | skip))))
  go_ret
  exact ⟨rfl, (by repeat (first | exact Below.refl _ _ | assumption | refine Below.drew ?_ | refine below_drewN ?_ _ | refine Below.alloc ?_ (by first | omega | (simp; done) | (simp; omega)) _ | refine Below.setCell ?_ (by first | omega | (simp; done) | (simp; omega)) _ | refine Below.trans ?_ (Below.mono (by assumption) (by first | omega | (simp; done) | (simp; omega)))))⟩

set_option maxRecDepth 100000 in
theorem splitL0_holds : Rows.FnExactSplitMoveSaid :=
  OpenClaim.holds_of_wide 8 Try.f8 rfl rfl rfl rfl rfl rfl rfl ⟨rfl, rfl, rfl, rfl, rfl⟩ rfl rfl rfl rfl rfl (by kernel_rfl) Try.func8 (by kernel_rfl)
    (of_decide_eq_true (by kernel_rfl)) (by unfold Func.isWrapper; rw [if_neg (of_decide_eq_false (by kernel_rfl))]; exact ⟨rfl, rfl⟩)
    (fun os started H enc _ => law_lifted (C := Try.checked) (s := Rows.fnExactSplitMoveSpec) Try.own started (by kernel_rfl) Try.func8
      (ChangeSpec.witness6 (enc := enc) (C := Try.checked) false ⟨#[], #[.agg #[.int .i64 0, .int .i64 0, .int .i64 0, .int .i64 0, .int .i64 0], .int .i64 0], []⟩ 8 (by kernel_rfl) (by kernel_rfl) (by kernel_rfl) (by kernel_rfl))
      Try.laidOut (by kernel_rfl) rfl Try.underlying4 rfl
      (fun W base args ds p hval hA hlt => by
        have hA' : DataW.TrodAll enc Try.prog W 0 (fun _ => true) true Try.f8.params.toList args.toList ds p := hA
        have hval' : ∀ (j : Nat) t v, Try.f8.params[j]? = some t → args[j]? = some v → Value.okWide Try.prog W .any base t v := hval
        rw [Try.params8] at hA' hval'
        obtain ⟨v0, v1, d0, d1, p0, p1, rfl, rfl, rfl, h0, h1⟩ := trodAll_two hA'
        obtain ⟨x1, y1, x1', y1', n1, rfl⟩ := open_move (hval' 0 _ v0 rfl rfl) h0
        obtain ⟨k, rfl, rfl, rfl, wfk⟩ := open_int Try.underlying3 (hval' 1 _ v1 rfl rfl) h1
        exact ⟨rfl, splitL0_law x1 y1 x1' y1' n1 k W⟩))

end Go.Proofs.Ytagfleajkalgiaa
