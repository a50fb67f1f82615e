/- The text of a spot, as the program writes it. Conditions: the library's table reads as it is laid. -/
import Derived.Test.YtfimjfchdaioeaaDoorStTextS
import Derived.Test.YtfimjfchdaioeaaDoorItoa
import Derived.Deep.RegionHeld3
import Derived.Deep.DrawnRows
import Derived.IntWalk
namespace Go.Proofs.YtfimjfchdaioeaaDoor
open Go.RowKit


attribute [local go_sem ↓] Go.wp_at_zero Go.wp_at_succ
set_option maxHeartbeats 1000000 in
theorem stepsText_any (x : Int) (h0 : 0 ≤ x) (h1 : x ≤ 1280) {w : World} (ht : Tab w.heap.size w) :
    Calls Tryd.prog 24 #[.int .i64 x] w fun e w' => e = .returned (.string (partT x)) ∧ Below w.heap.size w w' := by
  have s1 := decT_size (x / 8).toNat (by omega)
  have s2 := decT_size (x % 8).toNat (by omega)
  have HT := Lib.hid ht
  clear ht
  by_cases h : x % 8 = 0
  case' pos => have e0 := partT_whole h; have kb : (x % 8 == 0) = true := beq_iff_eq.2 h
  case' neg => have e0 := partT_rest h; have kb : (x % 8 == 0) = false := beq_eq_false_iff_ne.2 h
  all_goals have E0 := Lib.hid e0; clear e0
  all_goals
    go_enter Tryd.func24, Tryd.ntmps24
    go_wp2_with (first | (go_at_call 28; (refine (itoa_any _ (by omega) (by omega) _ (HT.out _ (by repeat (first | exact Below.refl _ _ | assumption | refine Below.drew ?_ | refine below_drewN ?_ _ | refine Below.alloc ?_ (by first | omega | (simp; done) | (simp; omega)) _ | refine Below.setCell ?_ (by first | omega | (simp; done) | (simp; omega)) _ | refine Below.trans ?_ (Below.mono (by assumption) (by first | omega | (simp; done) | (simp; omega))))))).mono ?_; rintro e w1 ⟨rfl, hb1⟩; have hs1 := hb1.size; (try simp at hs1); (first | have hk4 := call_facts hl3 hb1 (by simp) | skip); (first | have hk3 := call_facts hl2 hb1 (by simp) | skip); (first | have hk2 := call_facts hl1 hb1 (by simp) | skip); have hk1 := call_facts (fun b h => h) hb1 (Nat.le_refl _); (first | have hl4 := hk4.1 | skip); (first | have hl3 := hk3.1 | skip); (first | have hl2 := hk2.1 | skip); have hl1 := hk1.1)))
    go_ret
    exact ⟨by rw [E0.out]; rfl, (by repeat (first | exact Below.refl _ _ | assumption | refine Below.drew ?_ | refine below_drewN ?_ _ | refine Below.alloc ?_ (by first | omega | (simp; done) | (simp; omega)) _ | refine Below.setCell ?_ (by first | omega | (simp; done) | (simp; omega)) _ | refine Below.trans ?_ (Below.mono (by assumption) (by first | omega | (simp; done) | (simp; omega)))))⟩

/-- SpotText's first answer. -/
def textS (x y : Int) : ByteArray := if onField x y then spotT x y else ⟨#[]⟩
theorem textS_yes {x y : Int} (h : onField x y = true) : textS x y = spotT x y := by unfold textS; rw [if_pos h]
theorem textS_no {x y : Int} (h : onField x y = false) : textS x y = ⟨#[]⟩ := by unfold textS; rw [h]; rfl

set_option maxHeartbeats 1000000 in
theorem spotText_no (x y : Int) (h1 : onField x y = false) (w : World) :
    Calls Tryd.prog 13 #[.agg #[.int .i64 x, .int .i64 y]] w fun e w' => e = .returned (.tuple #[.string ⟨#[]⟩, .bool false]) ∧ Below w.heap.size w w' := by
  go_enter Tryd.func13, Tryd.ntmps13
  go_wp2_with (go_at_call 23; (refine (isSpot_any _ _ _).mono ?_; rintro e w1 ⟨rfl, hb1⟩; have hs1 := hb1.size; (try simp at hs1); obtain ⟨hc1, hf1, hl1⟩ := bcellN (w.heap.size + 1) hb1 (by first | omega | (simp; done) | (simp; omega))))
  go_ret2
  exact ⟨rfl, (by repeat (first | exact Below.refl _ _ | assumption | refine Below.drew ?_ | refine below_drewN ?_ _ | refine Below.alloc ?_ (by first | omega | (simp; done) | (simp; omega)) _ | refine Below.setCell ?_ (by first | omega | (simp; done) | (simp; omega)) _ | refine Below.trans ?_ (Below.mono (by assumption) (by first | omega | (simp; done) | (simp; omega)))))⟩

set_option maxHeartbeats 1000000 in
theorem spotText_yes (x y : Int) (h1 : onField x y = true) {w : World} (ht : Tab w.heap.size w) :
    Calls Tryd.prog 13 #[.agg #[.int .i64 x, .int .i64 y]] w fun e w' => e = .returned (.tuple #[.string (spotT x y), .bool true]) ∧ Below w.heap.size w w' := by
  have hst := fun (W : World) (hb : Below w.heap.size w W) (hz : w.heap.size ≤ W.heap.size) (z : Int) (z0 : 0 ≤ z) (z1 : z ≤ 1280) => stepsText_any z z0 z1 (w := W) (fun x hx => ht x (hb.trans (hx.mono hz)))
  have HS := Lib.hid hst
  clear hst ht
  obtain ⟨⟨a1, a2⟩, a3, a4⟩ := onField_iff.1 h1
  have s1 := partT_size x a1 a2
  have s2 := partT_size y a3 (by omega)
  have s3 : (⟨#[44]⟩ : ByteArray).size = 1 := rfl
  have S3 := Lib.hid s3
  clear s3
  obtain ⟨q1, q2, q3, q4, q5, q6, q7⟩ := nadd
  go_enter Tryd.func13, Tryd.ntmps13
  go_wp2_with (go_at_call 23; (refine (isSpot_any _ _ _).mono ?_; rintro e w1 ⟨rfl, hb1⟩; have hs1 := hb1.size; (try simp at hs1); obtain ⟨hcn, hfn, hln⟩ := bcellN (w.heap.size + 1) hb1 (by first | omega | (simp; done) | (simp; omega)); have hz0 : w.heap.size < w1.heap.size := (by omega); (first | have hk4 := call_facts hl3 hb1 (by simp) | skip); (first | have hk3 := call_facts hl2 hb1 (by simp) | skip); (first | have hk2 := call_facts hl1 hb1 (by simp) | skip); have hk1 := call_facts (fun b h => h) hb1 (Nat.le_refl _); (first | have hl4 := hk4.1 | skip); (first | have hl3 := hk3.1 | skip); (first | have hl2 := hk2.1 | skip); have hl1 := hk1.1))
  go_region_with (first | (go_at_call 24; (refine (HS.out _ (by repeat (first | exact Below.refl _ _ | assumption | refine Below.drew ?_ | refine below_drewN ?_ _ | refine Below.alloc ?_ (by first | omega | (simp; done) | (simp; omega)) _ | refine Below.setCell ?_ (by first | omega | (simp; done) | (simp; omega)) _ | refine Below.trans ?_ (Below.mono (by assumption) (by first | omega | (simp; done) | (simp; omega))))) (by first | omega | (simp; done) | (simp; omega)) _ (by omega) (by omega)).mono ?_; rintro e w1 ⟨rfl, hb1⟩; have hs1 := hb1.size; (try simp at hs1); obtain ⟨hcn, hfn, hln⟩ := bcellN (w.heap.size + 1) hb1 (by first | omega | (simp; done) | (simp; omega)); have hz0 : w.heap.size < w1.heap.size := (by omega); (first | have hk4 := call_facts hl3 hb1 (by simp) | skip); (first | have hk3 := call_facts hl2 hb1 (by simp) | skip); (first | have hk2 := call_facts hl1 hb1 (by simp) | skip); have hk1 := call_facts (fun b h => h) hb1 (Nat.le_refl _); (first | have hl4 := hk4.1 | skip); (first | have hl3 := hk3.1 | skip); (first | have hl2 := hk2.1 | skip); have hl1 := hk1.1)))
  all_goals
    go_wp2
    go_ret2
    exact ⟨rfl, (by repeat (first | exact Below.refl _ _ | assumption | refine Below.drew ?_ | refine below_drewN ?_ _ | refine Below.alloc ?_ (by first | omega | (simp; done) | (simp; omega)) _ | refine Below.setCell ?_ (by first | omega | (simp; done) | (simp; omega)) _ | refine Below.trans ?_ (Below.mono (by assumption) (by first | omega | (simp; done) | (simp; omega)))))⟩
theorem spotText_any (x y : Int) {w : World} (ht : Tab w.heap.size w) :
    Calls Tryd.prog 13 #[.agg #[.int .i64 x, .int .i64 y]] w fun e w' => e = .returned (.tuple #[.string (textS x y), .bool (onField x y)]) ∧ Below w.heap.size w w' := by
  cases h1 : onField x y
  · rw [textS_no h1]
    exact spotText_no x y h1 w
  · rw [textS_yes h1]
    exact spotText_yes x y h1 ht

end Go.Proofs.YtfimjfchdaioeaaDoor
