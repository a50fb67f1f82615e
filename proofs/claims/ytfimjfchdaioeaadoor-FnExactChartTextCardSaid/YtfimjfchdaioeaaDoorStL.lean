/- Lists of spots: the functions that only read them. No conditions but those written in each theorem. -/
import Derived.Test.YtfimjfchdaioeaaDoorSt
import Derived.Test.YtfimjfchdaioeaaDoorPairs
import Derived.Deep.RegionHeld3
import Derived.Deep.DrawnRows
namespace Go.Proofs.YtfimjfchdaioeaaDoor
open Go.RowKit


attribute [local go_sem ↓] Go.wp_at_zero Go.wp_at_succ

/-- All spots on the field? -/
def allOn (l : List (Int × Int)) : Bool := allP onField l
theorem allOn_true {l : List (Int × Int)} (h : ∀ j, j < l.length → onField (sx l j) (sy l j) = true) : allOn l = true := allP_true h
theorem allOn_at {l : List (Int × Int)} (h : allOn l = true) (j : Nat) (hj : j < l.length) : onField (sx l j) (sy l j) = true := allP_at h j hj
theorem allOn_false {l : List (Int × Int)} {j : Nat} (hj : j < l.length) (h : onField (sx l j) (sy l j) = false) : allOn l = false := allP_false hj h
/-- A list that the functions of chapter 1 take. -/
def okList (l : List (Int × Int)) : Bool := allOn l && decide (l.length ≤ 40)
theorem okList_parts {l : List (Int × Int)} (h : okList l = true) : allOn l = true ∧ l.length ≤ 40 := by
  unfold okList at h
  rw [Bool.and_eq_true, decide_eq_true_eq] at h
  exact h

set_option maxHeartbeats 1000000 in
theorem areSpots_yes (a : Option Addr) (cap : Nat) (l : List (Int × Int)) (hl : l.length ≤ 1048576) {w : World} (ha : PairsAt w a l) (h40 : l.length ≤ 40) :
    Calls Tryd.prog 21 #[.slice a l.length cap] w fun e w' => e = .returned (.bool (okList l)) ∧ Below w.heap.size w w' := by
  have hok : okList l = (allOn l && decide (l.length ≤ 40)) := rfl
  have Hok := Lib.hid hok
  clear hok
  go_enter Tryd.func21, Tryd.ntmps21
  go_wp2
  go_loopw [10] (fun i wr => ∃ k : Nat, k ≤ l.length ∧ i = .int .i64 k ∧ (∀ j, j < k → onField (sx l j) (sy l j) = true) ∧ Below w.heap.size w wr) (fun i _ => l.length - (intOf i).toNat)
  case atStart => exact ⟨0, Nat.zero_le _, rfl, fun j h => absurd h (Nat.not_lt_zero j), Below.refl _ _⟩
  case round =>
    obtain ⟨k, hk, rfl, hon, hbr⟩ := hrel
    have hsr := hbr.size
    have Hon := Lib.hid hon
    clear hon
    by_cases hlt : k < l.length
    · obtain ⟨b, off, rfl, c0, c1⟩ := (ha.below hbr) k hlt
      cases hg : onField (sx l k) (sy l k)
      · have e0 := allOn_false hlt hg
        have E0 := Lib.hid e0
        clear e0
        go_wp2_with (go_at_call 23; (refine (isSpot_any _ _ _).mono ?_; rintro e w1 ⟨rfl, hb1⟩; have hs1 := hb1.size; (try simp at hs1); (first | have hk4 := call_facts hl3 hb1 (by simp) | skip); (first | have hk3 := call_facts hl2 hb1 (by simp) | skip); (first | have hk2 := call_facts hl1 hb1 (by simp) | skip); have hk1 := call_facts (fun b h => h) hb1 (Nat.le_refl _); (first | have hl4 := hk4.1 | skip); (first | have hl3 := hk3.1 | skip); (first | have hl2 := hk2.1 | skip); have hl1 := hk1.1))
        go_ret
        exact ⟨by rw [Hok.out, E0.out]; rfl, (by repeat (first | exact Below.refl _ _ | assumption | refine Below.drew ?_ | refine below_drewN ?_ _ | refine Below.alloc ?_ (by first | omega | (simp; done) | (simp; omega)) _ | refine Below.setCell ?_ (by first | omega | (simp; done) | (simp; omega)) _ | refine Below.trans ?_ (Below.mono (by assumption) (by first | omega | (simp; done) | (simp; omega)))))⟩
      · have hon2 := ext_lt (p := fun j => onField (sx l j) (sy l j) = true) Hon.out hg
        have Hon2 := Lib.hid hon2
        clear hon2
        go_wp2_with (go_at_call 23; (refine (isSpot_any _ _ _).mono ?_; rintro e w1 ⟨rfl, hb1⟩; have hs1 := hb1.size; (try simp at hs1); (first | have hk4 := call_facts hl3 hb1 (by simp) | skip); (first | have hk3 := call_facts hl2 hb1 (by simp) | skip); (first | have hk2 := call_facts hl1 hb1 (by simp) | skip); have hk1 := call_facts (fun b h => h) hb1 (Nat.le_refl _); (first | have hl4 := hk4.1 | skip); (first | have hl3 := hk3.1 | skip); (first | have hl2 := hk2.1 | skip); have hl1 := hk1.1))
        go_roundw
        case rel => exact ⟨k + 1, by omega, by go_num, Hon2.out, (by repeat (first | exact Below.refl _ _ | assumption | refine Below.drew ?_ | refine below_drewN ?_ _ | refine Below.alloc ?_ (by first | omega | (simp; done) | (simp; omega)) _ | refine Below.setCell ?_ (by first | omega | (simp; done) | (simp; omega)) _ | refine Below.trans ?_ (Below.mono (by assumption) (by first | omega | (simp; done) | (simp; omega)))))⟩
        case measure => simp [intOf]; omega
    · have e0 := allOn_true (l := l) (fun j hj => Hon.out j (by omega))
      have E0 := Lib.hid e0
      clear e0
      go_wp2
      go_ret
      exact ⟨by rw [Hok.out, E0.out]; simp [h40], (by repeat (first | exact Below.refl _ _ | assumption | refine Below.drew ?_ | refine below_drewN ?_ _ | refine Below.alloc ?_ (by first | omega | (simp; done) | (simp; omega)) _ | refine Below.setCell ?_ (by first | omega | (simp; done) | (simp; omega)) _ | refine Below.trans ?_ (Below.mono (by assumption) (by first | omega | (simp; done) | (simp; omega)))))⟩

set_option maxHeartbeats 1000000 in
theorem areSpots_any (a : Option Addr) (cap : Nat) (l : List (Int × Int)) (hl : l.length ≤ 1048576) {w : World} (ha : PairsAt w a l) :
    Calls Tryd.prog 21 #[.slice a l.length cap] w fun e w' => e = .returned (.bool (okList l)) ∧ Below w.heap.size w w' := by
  by_cases h40 : l.length ≤ 40
  · exact areSpots_yes a cap l hl ha h40
  · have hok : okList l = false := by unfold okList; rw [decide_eq_false h40]; simp
    have Hok := Lib.hid hok
    clear hok
    go_enter Tryd.func21, Tryd.ntmps21
    go_wp2
    go_ret
    exact ⟨by rw [Hok.out]; rfl, (by repeat (first | exact Below.refl _ _ | assumption | refine Below.drew ?_ | refine below_drewN ?_ _ | refine Below.alloc ?_ (by first | omega | (simp; done) | (simp; omega)) _ | refine Below.setCell ?_ (by first | omega | (simp; done) | (simp; omega)) _ | refine Below.trans ?_ (Below.mono (by assumption) (by first | omega | (simp; done) | (simp; omega)))))⟩

end Go.Proofs.YtfimjfchdaioeaaDoor
