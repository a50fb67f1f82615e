/- Music, as the program reads it: what each call does. No conditions but those written in each theorem. -/
import Derived.Test.YtbpphcdhbbhjpaaDoorMuTime
import Derived.Test.YtbpphcdhbbhjpaaDoorMuBest
import Derived.Deep.RegionHeld3
import Derived.Deep.DrawnRows
import Derived.IntWalk
namespace Go.Proofs.YtbpphcdhbbhjpaaDoor
open Go.RowKit


attribute [local go_sem ↓] Go.wp_at_zero Go.wp_at_succ

set_option maxHeartbeats 400000 in
theorem inRange_any (n lo hi : Int) (w : World) :
    Calls Tryd.prog 19 #[.int .i64 n, .int .i64 lo, .int .i64 hi] w fun e w' => e = .returned (.bool (inB lo n hi)) ∧ w = w' := by
  by_cases h : lo ≤ n <;> by_cases h2 : n ≤ hi
  all_goals
    go_enter Tryd.func19, Tryd.ntmps19
    go_wp2
    go_ret
    exact ⟨by (have hh : inB lo n hi = decide (lo ≤ n ∧ n ≤ hi) := rfl); simp [hh]; try omega, rfl⟩
/-- From so much to so much, up to a bound. -/
def spanB (a b m : Int) : Bool := decide (0 ≤ a ∧ a ≤ b ∧ b ≤ m)
theorem spanB_iff {a b m : Int} : spanB a b m = true ↔ 0 ≤ a ∧ a ≤ b ∧ b ≤ m := by simp [spanB]
set_option maxHeartbeats 1000000 in
theorem isMusic_any (a : Option Addr) (cap : Nat) (l : List (Int × Int)) (hl : l.length ≤ 1048576) {w : World} (ha : PairsAt w a l) :
    Calls Tryd.prog 12 #[.slice a l.length cap] w fun e w' => e = .returned (.bool (musOk l)) ∧ Below w.heap.size w w' := by
  have hok : musOk l = (allP measOk l && inB 1 (l.length : Int) 40) := rfl
  have Hok := Lib.hid hok
  clear hok
  cases hL : inB 1 (l.length : Int) 40
  · go_enter Tryd.func12, Tryd.ntmps12
    go_wp2_with (go_at_call 19; (refine (inRange_any _ _ _ _).mono ?_; rintro e w' ⟨rfl, rfl⟩))
    go_ret
    exact ⟨by rw [Hok.out, hL, Bool.and_false]; rfl, (by repeat (first | exact Below.refl _ _ | assumption | refine Below.drew ?_ | refine below_drewN ?_ _ | refine Below.alloc ?_ (by first | omega | (simp; done) | (simp; omega)) _ | refine Below.setCell ?_ (by first | omega | (simp; done) | (simp; omega)) _ | refine Below.trans ?_ (Below.mono (by assumption) (by first | omega | (simp; done) | (simp; omega)))))⟩
  · have HL := Lib.hid hL
    go_enter Tryd.func12, Tryd.ntmps12
    go_wp2_with (go_at_call 19; (refine (inRange_any _ _ _ _).mono ?_; rintro e w' ⟨rfl, rfl⟩))
    clear hL
    go_loopw [11] (fun i wr => ∃ k : Nat, k ≤ l.length ∧ i = .int .i64 k ∧ (∀ j, j < k → measOk (sx l j) (sy l j) = true) ∧ Below w.heap.size w wr) (fun i _ => l.length - (intOf i).toNat)
    case atStart => exact ⟨0, Nat.zero_le _, rfl, fun j h => absurd h (Nat.not_lt_zero j), Below.refl _ _⟩
    case round =>
      obtain ⟨k, hk, rfl, hon, hbr⟩ := hrel
      have hsr := hbr.size
      have Hon := Lib.hid hon
      clear hon
      by_cases hlt : k < l.length
      · obtain ⟨b, off, rfl, c0, c1⟩ := (ha.below hbr) k hlt
        have hg0 : measOk (sx l k) (sy l k) = (inB 1 (sx l k) 12 && inB 40 (sy l k) 220) := rfl
        have Hg0 := Lib.hid hg0
        clear hg0
        by_cases hg : measOk (sx l k) (sy l k) = true
        · have hg2 := Hg0.out.symm.trans hg
          rw [Bool.and_eq_true] at hg2
          obtain ⟨h1, h2⟩ := hg2
          have hon2 := ext_lt (p := fun j => measOk (sx l j) (sy l j) = true) Hon.out hg
          have Hon2 := Lib.hid hon2
          clear hon2 hg
          go_wp2_with (go_at_call 19; (refine (inRange_any _ _ _ _).mono ?_; rintro e w' ⟨rfl, rfl⟩))
          go_roundw
          case rel => exact ⟨k + 1, by omega, by go_num, Hon2.out, (by repeat (first | exact Below.refl _ _ | assumption | refine Below.drew ?_ | refine below_drewN ?_ _ | refine Below.alloc ?_ (by first | omega | (simp; done) | (simp; omega)) _ | refine Below.setCell ?_ (by first | omega | (simp; done) | (simp; omega)) _ | refine Below.trans ?_ (Below.mono (by assumption) (by first | omega | (simp; done) | (simp; omega)))))⟩
          case measure => simp [intOf]; omega
        · have e0 := allP_false (g := measOk) hlt (by simpa using hg)
          have E0 := Lib.hid e0
          have Hg := Lib.hid hg
          clear e0 hg
          cases h1 : inB 1 (sx l k) 12
          · go_wp2_with (go_at_call 19; (refine (inRange_any _ _ _ _).mono ?_; rintro e w' ⟨rfl, rfl⟩))
            go_ret
            exact ⟨by rw [Hok.out, E0.out]; rfl, (by repeat (first | exact Below.refl _ _ | assumption | refine Below.drew ?_ | refine below_drewN ?_ _ | refine Below.alloc ?_ (by first | omega | (simp; done) | (simp; omega)) _ | refine Below.setCell ?_ (by first | omega | (simp; done) | (simp; omega)) _ | refine Below.trans ?_ (Below.mono (by assumption) (by first | omega | (simp; done) | (simp; omega)))))⟩
          · cases h2 : inB 40 (sy l k) 220
            · go_wp2_with (go_at_call 19; (refine (inRange_any _ _ _ _).mono ?_; rintro e w' ⟨rfl, rfl⟩))
              go_ret
              exact ⟨by rw [Hok.out, E0.out]; rfl, (by repeat (first | exact Below.refl _ _ | assumption | refine Below.drew ?_ | refine below_drewN ?_ _ | refine Below.alloc ?_ (by first | omega | (simp; done) | (simp; omega)) _ | refine Below.setCell ?_ (by first | omega | (simp; done) | (simp; omega)) _ | refine Below.trans ?_ (Below.mono (by assumption) (by first | omega | (simp; done) | (simp; omega)))))⟩
            · exact absurd (by rw [Hg0.out, h1, h2]; rfl) Hg.out
      · have e0 := allP_true (g := measOk) (l := l) (fun j hj => Hon.out j (by omega))
        have E0 := Lib.hid e0
        clear e0
        go_wp2
        go_ret
        exact ⟨by rw [Hok.out, E0.out, HL.out]; rfl, (by repeat (first | exact Below.refl _ _ | assumption | refine Below.drew ?_ | refine below_drewN ?_ _ | refine Below.alloc ?_ (by first | omega | (simp; done) | (simp; omega)) _ | refine Below.setCell ?_ (by first | omega | (simp; done) | (simp; omega)) _ | refine Below.trans ?_ (Below.mono (by assumption) (by first | omega | (simp; done) | (simp; omega)))))⟩

/-- The index of the measure of a count: behind the last count that behind the last measure. -/
def plI (l : List (Int × Int)) (c : Int) : Nat := if c < total l then atM l c else l.length
theorem plI_in {l : List (Int × Int)} {c : Int} (h : c < total l) : plI l c = atM l c := by unfold plI; rw [if_pos h]
theorem plI_out {l : List (Int × Int)} {c : Int} (h : ¬ c < total l) : plI l c = l.length := by unfold plI; rw [if_neg h]

end Go.Proofs.YtbpphcdhbbhjpaaDoor
