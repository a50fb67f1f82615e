/- The exact law of StepSquare. No conditions. -/
import Derived.Test.YtagfleajkalgiaaMvStep
import Derived.Test.YtagfleajkalgiaaOpenMv
import Derived.Deep.RegionHeld3
import Derived.Deep.DeepCutAuto
import Derived.Deep.DrawnRows
namespace Go.Proofs.Ytagfleajkalgiaa
open Go.ChangeShapes Go.WideShapes Go.ChangeAt Go.RowKit


attribute [local go_sem ↓] Go.wp_at_zero Go.wp_at_succ

set_option maxRecDepth 100000 in
set_option maxHeartbeats 2000000 in
theorem stepL0_law (x1 y1 x1' y1' n1 : Int) (w : World) :
    Calls Try.prog 6 #[.agg #[.int .i64 x1, .int .i64 y1, .int .i64 x1', .int .i64 y1', .int .i64 n1]] w fun e w' => e = .returned (.bool true) ∧ Below w.heap.size w w' := by
  obtain ⟨q1, q2, q3, q4, q5, q6, q7⟩ := nadd
  have HSP := Lib.hid (fun W => specStep_any x1 y1 x1' y1' n1 W)
  have HIM := Lib.hid (fun W => step_any x1 y1 x1' y1' n1 W)
  obtain ⟨X, hX⟩ : ∃ z, z = guardI (isMv x1 y1 x1' y1' n1) (stepN x1 y1 x1' y1' n1) := ⟨_, rfl⟩
  simp only [← hX] at HSP HIM
  clear hX
  obtain ⟨Y, hY⟩ : ∃ z, z = guardI (isMv x1 y1 x1' y1' n1) (stepD x1 y1 x1' y1' n1) := ⟨_, rfl⟩
  simp only [← hY] at HSP HIM
  clear hY
  obtain ⟨ok, hok⟩ : ∃ z, z = isMv x1 y1 x1' y1' n1 := ⟨_, rfl⟩
  simp only [← hok] at HSP HIM
  clear hok
  go_enter Try.func6, Try.ntmps6
  go_wp2_with (first | (go_at_call 13; (with_reducible refine (toMove_any _ _ _ _ _ _).mono ?_; rintro e w1 ⟨rfl, hb1⟩; have hs1 := hb1.size; (try simp at hs1); (first | have hk6 := call_facts hl5 hb1 (by first | (simp; done) | (simp; omega)) | skip); (first | have hk5 := call_facts hl4 hb1 (by first | (simp; done) | (simp; omega)) | skip); (first | have hk4 := call_facts hl3 hb1 (by simp) | skip); (first | have hk3 := call_facts hl2 hb1 (by simp) | skip); (first | have hk2 := call_facts hl1 hb1 (by simp) | skip); have hk1 := call_facts (fun b h => h) hb1 (Nat.le_refl _); (first | have hl6 := hk6.1 | skip); (first | have hl5 := hk5.1 | skip); (first | have hl4 := hk4.1 | skip); (first | have hl3 := hk3.1 | skip); (first | have hl2 := hk2.1 | skip); have hl1 := hk1.1)) | (go_at_call 20; (with_reducible refine (HSP.out _).mono ?_; rintro e w1 ⟨rfl, hb1⟩; have hs1 := hb1.size; (try simp at hs1); (first | have hk6 := call_facts hl5 hb1 (by first | (simp; done) | (simp; omega)) | skip); (first | have hk5 := call_facts hl4 hb1 (by first | (simp; done) | (simp; omega)) | skip); (first | have hk4 := call_facts hl3 hb1 (by simp) | skip); (first | have hk3 := call_facts hl2 hb1 (by simp) | skip); (first | have hk2 := call_facts hl1 hb1 (by simp) | skip); have hk1 := call_facts (fun b h => h) hb1 (Nat.le_refl _); (first | have hl6 := hk6.1 | skip); (first | have hl5 := hk5.1 | skip); (first | have hl4 := hk4.1 | skip); (first | have hl3 := hk3.1 | skip); (first | have hl2 := hk2.1 | skip); have hl1 := hk1.1)) | (go_at_call 21; (with_reducible refine (HIM.out _).mono ?_; rintro e w1 ⟨rfl, hb1⟩; have hs1 := hb1.size; (try simp at hs1); (first | have hk6 := call_facts hl5 hb1 (by first | (simp; done) | (simp; omega)) | skip); (first | have hk5 := call_facts hl4 hb1 (by first | (simp; done) | (simp; omega)) | skip); (first | have hk4 := call_facts hl3 hb1 (by simp) | skip); (first | have hk3 := call_facts hl2 hb1 (by simp) | skip); (first | have hk2 := call_facts hl1 hb1 (by simp) | skip); have hk1 := call_facts (fun b h => h) hb1 (Nat.le_refl _); (first | have hl6 := hk6.1 | skip); (first | have hl5 := hk5.1 | skip); (first | have hl4 := hk4.1 | skip); (first | have hl3 := hk3.1 | skip); (first | have hl2 := hk2.1 | skip); have hl1 := hk1.1)))
  go_ret
  exact ⟨rfl, (by repeat (first | exact Below.refl _ _ | assumption | refine Below.drew ?_ | refine below_drewN ?_ _ | refine Below.alloc ?_ (by first | omega | (simp; done) | (simp; omega)) _ | refine Below.setCell ?_ (by first | omega | (simp; done) | (simp; omega)) _ | refine Below.trans ?_ (Below.mono (by assumption) (by first | omega | (simp; done) | (simp; omega)))))⟩

set_option maxRecDepth 100000 in
theorem stepL0_holds : Rows.FnExactStepSquareSaid :=
  OpenClaim.holds_of_wide 6 Try.f6 rfl rfl rfl rfl rfl rfl rfl ⟨rfl, rfl, rfl, rfl, rfl⟩ rfl rfl rfl rfl rfl (by kernel_rfl) Try.func6 (by kernel_rfl)
    (of_decide_eq_true (by kernel_rfl)) (by unfold Func.isWrapper; rw [if_neg (of_decide_eq_false (by kernel_rfl))]; exact ⟨rfl, rfl⟩)
    (fun os started H enc _ => law_lifted (C := Try.checked) (s := Rows.fnExactStepSquareSpec) Try.own started (by kernel_rfl) Try.func6
      (ChangeSpec.witness6 (enc := enc) (C := Try.checked) false ⟨#[], #[.agg #[.int .i64 0, .int .i64 0, .int .i64 0, .int .i64 0, .int .i64 0]], []⟩ 8 (by kernel_rfl) (by kernel_rfl) (by kernel_rfl) (by kernel_rfl))
      Try.laidOut (by kernel_rfl) rfl Try.underlying4 rfl
      (fun W base args ds p hval hA hlt => by
        have hA' : DataW.TrodAll enc Try.prog W 0 (fun _ => true) true Try.f6.params.toList args.toList ds p := hA
        have hval' : ∀ (j : Nat) t v, Try.f6.params[j]? = some t → args[j]? = some v → Value.okWide Try.prog W .any base t v := hval
        rw [Try.params6] at hA' hval'
        obtain ⟨v0, d0, rfl, rfl, h0⟩ := trodAll_one hA'
        obtain ⟨x1, y1, x1', y1', n1, rfl⟩ := open_move (hval' 0 _ v0 rfl rfl) h0
        exact ⟨rfl, stepL0_law x1 y1 x1' y1' n1 W⟩))

end Go.Proofs.Ytagfleajkalgiaa
