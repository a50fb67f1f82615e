/- The text of a spot, as the other side writes it. No conditions but those written in each theorem. -/
import Derived.Test.YtfimjfchdaioeaaDoorL1Num
import Derived.Test.YtfimjfchdaioeaaDoorStNum
import Derived.Test.YtfimjfchdaioeaaDoorSt
import Derived.Deep.RegionHeld3
import Derived.Deep.DrawnRows
import Derived.IntWalk
import Derived.Lib.ItoaNum
import Derived.Lib.ItoaMem
import Derived.Lib.ItoaLen
namespace Go.Proofs.YtfimjfchdaioeaaDoor
open Go.RowKit


attribute [local go_sem ↓] Go.wp_at_zero Go.wp_at_succ
theorem partT_size (x : Int) (h0 : 0 ≤ x) (h1 : x ≤ 1280) : (partT x).size ≤ 61 := by
  have a1 := decT_size (x / 8).toNat (by omega)
  have a2 := decT_size (x % 8).toNat (by omega)
  by_cases h : x % 8 = 0
  · rw [partT_whole h]; omega
  · rw [partT_rest h, ByteArray.size_append, ByteArray.size_append]
    have : (⟨#[43]⟩ : ByteArray).size = 1 := rfl
    omega

set_option maxHeartbeats 1000000 in
theorem stPart_any (x : Int) (h0 : 0 ≤ x) (h1 : x ≤ 1280) (w : World) :
    Calls Tryd.prog 26 #[.int .i64 x] w fun e w' => e = .returned (.string (partT x)) ∧ Below w.heap.size w w' := by
  have s1 := decT_size (x / 8).toNat (by omega)
  have s2 := decT_size (x % 8).toNat (by omega)
  by_cases h : x % 8 = 0
  case' pos => have e0 := partT_whole h; have kb : (x % 8 == 0) = true := beq_iff_eq.2 h
  case' neg => have e0 := partT_rest h; have kb : (x % 8 == 0) = false := beq_eq_false_iff_ne.2 h
  all_goals have E0 := Lib.hid e0; clear e0
  all_goals
    go_enter Tryd.func26, Tryd.ntmps26
    go_wp2_with (first | (go_at_call 30; (refine (l1Num_any _ (by omega) (by omega) _).mono ?_; rintro e w1 ⟨rfl, hb1⟩; have hs1 := hb1.size; (try simp at hs1); (first | have hk4 := call_facts hl3 hb1 (by simp) | skip); (first | have hk3 := call_facts hl2 hb1 (by simp) | skip); (first | have hk2 := call_facts hl1 hb1 (by simp) | skip); have hk1 := call_facts (fun b h => h) hb1 (Nat.le_refl _); (first | have hl4 := hk4.1 | skip); (first | have hl3 := hk3.1 | skip); (first | have hl2 := hk2.1 | skip); have hl1 := hk1.1)))
    go_ret
    exact ⟨by rw [E0.out]; rfl, (by repeat (first | exact Below.refl _ _ | assumption | refine Below.drew ?_ | refine below_drewN ?_ _ | refine Below.alloc ?_ (by first | omega | (simp; done) | (simp; omega)) _ | refine Below.setCell ?_ (by first | omega | (simp; done) | (simp; omega)) _ | refine Below.trans ?_ (Below.mono (by assumption) (by first | omega | (simp; done) | (simp; omega)))))⟩


set_option maxHeartbeats 1000000 in
theorem stText_any (x y : Int) (h1 : onField x y = true) (w : World) :
    Calls Tryd.prog 19 #[.agg #[.int .i64 x, .int .i64 y]] w fun e w' => e = .returned (.string (spotT x y)) ∧ Below w.heap.size w w' := by
  obtain ⟨⟨a1, a2⟩, a3, a4⟩ := onField_iff.1 h1
  have s1 := partT_size x a1 a2
  have s2 := partT_size y a3 (by omega)
  have s3 : (⟨#[44]⟩ : ByteArray).size = 1 := rfl
  have S3 := Lib.hid s3
  clear s3
  go_enter Tryd.func19, Tryd.ntmps19
  go_wp2
  go_region_with (first | (go_at_call 26; (refine (stPart_any _ (by omega) (by omega) _).mono ?_; rintro e w1 ⟨rfl, hb1⟩; have hs1 := hb1.size; (try simp at hs1); (first | have hk4 := call_facts hl3 hb1 (by simp) | skip); (first | have hk3 := call_facts hl2 hb1 (by simp) | skip); (first | have hk2 := call_facts hl1 hb1 (by simp) | skip); have hk1 := call_facts (fun b h => h) hb1 (Nat.le_refl _); (first | have hl4 := hk4.1 | skip); (first | have hl3 := hk3.1 | skip); (first | have hl2 := hk2.1 | skip); have hl1 := hk1.1)))
  all_goals
    go_wp2
    go_ret
    exact ⟨rfl, (by repeat (first | exact Below.refl _ _ | assumption | refine Below.drew ?_ | refine below_drewN ?_ _ | refine Below.alloc ?_ (by first | omega | (simp; done) | (simp; omega)) _ | refine Below.setCell ?_ (by first | omega | (simp; done) | (simp; omega)) _ | refine Below.trans ?_ (Below.mono (by assumption) (by first | omega | (simp; done) | (simp; omega)))))⟩

end Go.Proofs.YtfimjfchdaioeaaDoor
