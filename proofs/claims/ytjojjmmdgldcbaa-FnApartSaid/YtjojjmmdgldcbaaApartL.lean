/- The law of two moves apart. No conditions. -/
import Derived.Test.YtjojjmmdgldcbaaApart
import Derived.Deep.RegionHeld3
import Derived.Deep.DeepCutAuto
import Derived.Deep.DrawnRows
import Derived.Deep.DeepCutAuto
namespace Go.Proofs.Ytjojjmmdgldcbaa
open Go.ChangeShapes Go.WideShapes Go.ChangeAt Go.RowKit


attribute [local go_sem ↓] Go.wp_at_zero Go.wp_at_succ

set_option maxRecDepth 100000 in
set_option maxHeartbeats 4000000 in
theorem apart_big (a1 : Option Addr) (c1 n1 : Nat) (a2 : Option Addr) (c2 n2' : Nat) (len : Int) (hv1 : IntKind.i64.wrap ((n1 : Int) + (n2' : Int)) = len) (hn' : 1048576 < len) (w : World) :
    Calls Try.prog 13 #[.slice a1 n1 c1, .slice a2 n2' c2] w fun e w' => e = .returned (.bool true) ∧ Below w.heap.size w w' := by
  go_enter Try.func13, Try.ntmps13
  go_wp2
  go_ret
  exact ⟨rfl, Below.refl _ _⟩
theorem apart_law (a1 : Option Addr) (c1 n1 : Nat) (a2 : Option Addr) (c2 n2' : Nat) (w : World) (hY1 : BytesIn w a1 n1) (hY2 : BytesIn w a2 n2') :
    Calls Try.prog 13 #[.slice a1 n1 c1, .slice a2 n2' c2] w fun e w' => e = .returned (.bool true) ∧ Below w.heap.size w w' := by
  by_cases h : 1048576 < IntKind.i64.wrap ((n1 : Int) + (n2' : Int))
  · exact apart_big a1 c1 n1 a2 c2 n2' _ rfl h w
  · exact apart_small a1 c1 n1 a2 c2 n2' _ rfl h w hY1 hY2

set_option maxRecDepth 100000 in
theorem apartD_holds : Rows.FnApartSaid :=
  OpenClaim.holds_of_wide 13 Try.f13 rfl rfl rfl rfl rfl rfl rfl ⟨rfl, rfl, rfl, rfl, rfl⟩ rfl rfl rfl rfl rfl (by kernel_rfl) Try.func13 (by kernel_rfl)
    (of_decide_eq_true (by kernel_rfl)) (by unfold Func.isWrapper; rw [if_neg (of_decide_eq_false (by kernel_rfl))]; exact ⟨rfl, rfl⟩)
    (fun os started H enc _ => law_lifted (C := Try.checked) (s := Rows.fnApartSpec) Try.own started (by kernel_rfl) Try.func13
      (ChangeSpec.witness6 (enc := enc) (C := Try.checked) false ⟨#[], #[.slice none 0 0, .slice none 0 0], []⟩ 8 (by kernel_rfl) (by kernel_rfl) (by kernel_rfl) (by kernel_rfl))
      Try.laidOut (by kernel_rfl) rfl Try.underlying4 rfl
      (fun W base args ds p hval hA hlt => by
        have hA' : DataW.TrodAll enc Try.prog W 0 (fun _ => true) true Try.f13.params.toList args.toList ds p := hA
        have hval' : ∀ (j : Nat) t v, Try.f13.params[j]? = some t → args[j]? = some v → Value.okWide Try.prog W .any base t v := hval
        rw [Try.params13] at hA' hval'
        obtain ⟨v0, v1, d0, d1, p0, p1, rfl, rfl, rfl, h0, h1⟩ := trodAll_two hA'
        obtain ⟨a1, c1, n1, rfl, hb1, _⟩ := open_bytesS (hval' 0 _ v0 rfl rfl) h0
        obtain ⟨a2, c2, n2, rfl, hb2, _⟩ := open_bytesS (hval' 1 _ v1 rfl rfl) h1
        exact ⟨rfl, apart_law a1 c1 n1 a2 c2 n2 W hb1 hb2⟩))

end Go.Proofs.Ytjojjmmdgldcbaa
