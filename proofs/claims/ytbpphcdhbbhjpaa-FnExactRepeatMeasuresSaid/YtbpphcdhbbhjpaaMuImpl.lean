/- Music, as the program reads it: what each call does. No conditions but those written in each theorem. -/
import Derived.Test.YtbpphcdhbbhjpaaMuTime
import Derived.Test.YtbpphcdhbbhjpaaMuBest
import Derived.Deep.RegionHeld3
import Derived.Deep.DrawnRows
import Derived.IntWalk
namespace Go.Proofs.Ytbpphcdhbbhjpaa
open Go.RowKit


attribute [local go_sem ↓] Go.wp_at_zero Go.wp_at_succ

set_option maxHeartbeats 400000 in
theorem inRange_any (n lo hi : Int) (w : World) :
    Calls Try.prog 43 #[.int .i64 n, .int .i64 lo, .int .i64 hi] w fun e w' => e = .returned (.bool (inB lo n hi)) ∧ w = w' := by
  by_cases h : lo ≤ n <;> by_cases h2 : n ≤ hi
  all_goals
    go_enter Try.func43, Try.ntmps43
    go_wp2
    go_ret
    exact ⟨by (have hh : inB lo n hi = decide (lo ≤ n ∧ n ≤ hi) := rfl); simp [hh]; try omega, rfl⟩
/-- From so much to so much, up to a bound. -/
def spanB (a b m : Int) : Bool := decide (0 ≤ a ∧ a ≤ b ∧ b ≤ m)
theorem spanB_iff {a b m : Int} : spanB a b m = true ↔ 0 ≤ a ∧ a ≤ b ∧ b ≤ m := by simp [spanB]
set_option maxHeartbeats 400000 in
theorem isSpan_any (a b m : Int) (w : World) :
    Calls Try.prog 56 #[.int .i64 a, .int .i64 b, .int .i64 m] w fun e w' => e = .returned (.bool (spanB a b m)) ∧ w = w' := by
  by_cases h : 0 ≤ a <;> by_cases h2 : a ≤ b <;> by_cases h3 : b ≤ m
  all_goals
    go_enter Try.func56, Try.ntmps56
    go_wp2
    go_ret
    exact ⟨by (have hh : spanB a b m = decide (0 ≤ a ∧ a ≤ b ∧ b ≤ m) := rfl); simp [hh]; try omega, rfl⟩
set_option maxHeartbeats 1000000 in
theorem countsLast_any (c t : Int) (h0 : 0 ≤ c) (h1 : c ≤ 1000000) (h2 : 1 ≤ t) (h3 : t ≤ 1000000) (w : World) :
    Calls Try.prog 62 #[.int .i64 c, .int .i64 t] w fun e w' => e = .returned (.int .i64 (lst c t)) ∧ w = w' := by
  have hd : 0 ≤ 60000 * c / t ∧ 60000 * c / t ≤ 60000 * c := ⟨Int.ediv_nonneg (by omega) (by omega), Int.ediv_le_self _ (by omega)⟩
  obtain ⟨d1, d2⟩ := hd
  have v1 : IntKind.i64.wrap (60000 * c) = 60000 * c := IntWalk.i64_in _ (by omega)
  have v2 : Int.tdiv (60000 * c) t = 60000 * c / t := Int.tdiv_eq_ediv_of_nonneg (by omega)
  have v3 : IntKind.i64.wrap (60000 * c / t) = 60000 * c / t := IntWalk.i64_in _ (by omega)
  have v4 : ¬ t = 0 := by omega
  have v5 : (t == 0) = false := by rw [beq_eq_false_iff_ne]; exact v4
  have hls : lst c t = 60000 * c / t := rfl
  have Hls := Lib.hid hls
  clear hls
  go_enter Try.func62, Try.ntmps62
  go_wp2
  go_ret
  exact ⟨by rw [Hls.out]; rfl, rfl⟩

set_option maxHeartbeats 1000000 in
theorem isMusic_any (a : Option Addr) (cap : Nat) (l : List (Int × Int)) (hl : l.length ≤ 1048576) {w : World} (ha : PairsAt w a l) :
    Calls Try.prog 17 #[.slice a l.length cap] w fun e w' => e = .returned (.bool (musOk l)) ∧ Below w.heap.size w w' := by
  have hok : musOk l = (allP measOk l && inB 1 (l.length : Int) 40) := rfl
  have Hok := Lib.hid hok
  clear hok
  cases hL : inB 1 (l.length : Int) 40
  · go_enter Try.func17, Try.ntmps17
    go_wp2_with (go_at_call 43; (refine (inRange_any _ _ _ _).mono ?_; rintro e w' ⟨rfl, rfl⟩))
    go_ret
    exact ⟨by rw [Hok.out, hL, Bool.and_false]; rfl, (by repeat (first | exact Below.refl _ _ | assumption | refine Below.drew ?_ | refine below_drewN ?_ _ | refine Below.alloc ?_ (by first | omega | (simp; done) | (simp; omega)) _ | refine Below.setCell ?_ (by first | omega | (simp; done) | (simp; omega)) _ | refine Below.trans ?_ (Below.mono (by assumption) (by first | omega | (simp; done) | (simp; omega)))))⟩
  · have HL := Lib.hid hL
    go_enter Try.func17, Try.ntmps17
    go_wp2_with (go_at_call 43; (refine (inRange_any _ _ _ _).mono ?_; rintro e w' ⟨rfl, rfl⟩))
    clear hL
    go_loopw [11] (fun i wr => ∃ k : Nat, k ≤ l.length ∧ i = .int .i64 k ∧ (∀ j, j < k → measOk (sx l j) (sy l j) = true) ∧ Below w.heap.size w wr) (fun i _ => l.length - (intOf i).toNat)
    case atStart => exact ⟨0, Nat.zero_le _, rfl, fun j h => absurd h (Nat.not_lt_zero j), Below.refl _ _⟩
    case round =>
      obtain ⟨k, hk, rfl, hon, hbr⟩ := hrel
      have hsr := hbr.size
      have Hon := Lib.hid hon
      clear hon
      by_cases hlt : k < l.length
      · obtain ⟨b, off, rfl, c0, c1⟩ := (ha.below hbr) k hlt
        have hg0 : measOk (sx l k) (sy l k) = (inB 1 (sx l k) 12 && inB 40 (sy l k) 220) := rfl
        have Hg0 := Lib.hid hg0
        clear hg0
        by_cases hg : measOk (sx l k) (sy l k) = true
        · have hg2 := Hg0.out.symm.trans hg
          rw [Bool.and_eq_true] at hg2
          obtain ⟨h1, h2⟩ := hg2
          have hon2 := ext_lt (p := fun j => measOk (sx l j) (sy l j) = true) Hon.out hg
          have Hon2 := Lib.hid hon2
          clear hon2 hg
          go_wp2_with (go_at_call 43; (refine (inRange_any _ _ _ _).mono ?_; rintro e w' ⟨rfl, rfl⟩))
          go_roundw
          case rel => exact ⟨k + 1, by omega, by go_num, Hon2.out, (by repeat (first | exact Below.refl _ _ | assumption | refine Below.drew ?_ | refine below_drewN ?_ _ | refine Below.alloc ?_ (by first | omega | (simp; done) | (simp; omega)) _ | refine Below.setCell ?_ (by first | omega | (simp; done) | (simp; omega)) _ | refine Below.trans ?_ (Below.mono (by assumption) (by first | omega | (simp; done) | (simp; omega)))))⟩
          case measure => simp [intOf]; omega
        · have e0 := allP_false (g := measOk) hlt (by simpa using hg)
          have E0 := Lib.hid e0
          have Hg := Lib.hid hg
          clear e0 hg
          cases h1 : inB 1 (sx l k) 12
          · go_wp2_with (go_at_call 43; (refine (inRange_any _ _ _ _).mono ?_; rintro e w' ⟨rfl, rfl⟩))
            go_ret
            exact ⟨by rw [Hok.out, E0.out]; rfl, (by repeat (first | exact Below.refl _ _ | assumption | refine Below.drew ?_ | refine below_drewN ?_ _ | refine Below.alloc ?_ (by first | omega | (simp; done) | (simp; omega)) _ | refine Below.setCell ?_ (by first | omega | (simp; done) | (simp; omega)) _ | refine Below.trans ?_ (Below.mono (by assumption) (by first | omega | (simp; done) | (simp; omega)))))⟩
          · cases h2 : inB 40 (sy l k) 220
            · go_wp2_with (go_at_call 43; (refine (inRange_any _ _ _ _).mono ?_; rintro e w' ⟨rfl, rfl⟩))
              go_ret
              exact ⟨by rw [Hok.out, E0.out]; rfl, (by repeat (first | exact Below.refl _ _ | assumption | refine Below.drew ?_ | refine below_drewN ?_ _ | refine Below.alloc ?_ (by first | omega | (simp; done) | (simp; omega)) _ | refine Below.setCell ?_ (by first | omega | (simp; done) | (simp; omega)) _ | refine Below.trans ?_ (Below.mono (by assumption) (by first | omega | (simp; done) | (simp; omega)))))⟩
            · exact absurd (by rw [Hg0.out, h1, h2]; rfl) Hg.out
      · have e0 := allP_true (g := measOk) (l := l) (fun j hj => Hon.out j (by omega))
        have E0 := Lib.hid e0
        clear e0
        go_wp2
        go_ret
        exact ⟨by rw [Hok.out, E0.out, HL.out]; rfl, (by repeat (first | exact Below.refl _ _ | assumption | refine Below.drew ?_ | refine below_drewN ?_ _ | refine Below.alloc ?_ (by first | omega | (simp; done) | (simp; omega)) _ | refine Below.setCell ?_ (by first | omega | (simp; done) | (simp; omega)) _ | refine Below.trans ?_ (Below.mono (by assumption) (by first | omega | (simp; done) | (simp; omega)))))⟩

set_option maxHeartbeats 1000000 in
theorem sumOfCounts_any (a : Option Addr) (cap : Nat) (l : List (Int × Int)) (hm : musOk l = true) {w : World} (ha : PairsAt w a l) :
    Calls Try.prog 46 #[.slice a l.length cap] w fun e w' => e = .returned (.int .i64 (total l)) ∧ Below w.heap.size w w' := by
  obtain ⟨n1, n2⟩ := musOk_len hm
  have Hm := Lib.hid hm
  clear hm
  go_enter Try.func46, Try.ntmps46
  go_wp2
  go_loopw [3, 8] (fun s i wr => ∃ k : Nat, k ≤ l.length ∧ i = .int .i64 k ∧ s = .int .i64 (cn l k) ∧ Below w.heap.size w wr) (fun _ i _ => l.length - (intOf i).toNat)
  case atStart => exact ⟨0, Nat.zero_le _, rfl, rfl, Below.refl _ _⟩
  case round =>
    obtain ⟨k, hk, rfl, rfl, hbr⟩ := hrel
    have hsr := hbr.size
    by_cases hlt : k < l.length
    · obtain ⟨b, off, rfl, c0, c1⟩ := (ha.below hbr) k hlt
      obtain ⟨b1, b2⟩ := cn_bound Hm.out k hk
      obtain ⟨⟨b3, b4⟩, _⟩ := musOk_at Hm.out k hlt
      have hst : cn l (k + 1) = cn l k + sx l k := rfl
      have Hst := Lib.hid hst
      clear hst
      have v1 : IntKind.i64.wrap (cn l k + sx l k) = cn l k + sx l k := IntWalk.i64_in _ (by omega)
      go_wp2
      go_roundw
      case rel => exact ⟨k + 1, by omega, by go_num, by rw [Hst.out], (by repeat (first | exact Below.refl _ _ | assumption | refine Below.drew ?_ | refine below_drewN ?_ _ | refine Below.alloc ?_ (by first | omega | (simp; done) | (simp; omega)) _ | refine Below.setCell ?_ (by first | omega | (simp; done) | (simp; omega)) _ | refine Below.trans ?_ (Below.mono (by assumption) (by first | omega | (simp; done) | (simp; omega)))))⟩
      case measure => simp [intOf]; omega
    · obtain rfl : k = l.length := by omega
      go_wp2
      go_ret
      exact ⟨rfl, (by repeat (first | exact Below.refl _ _ | assumption | refine Below.drew ?_ | refine below_drewN ?_ _ | refine Below.alloc ?_ (by first | omega | (simp; done) | (simp; omega)) _ | refine Below.setCell ?_ (by first | omega | (simp; done) | (simp; omega)) _ | refine Below.trans ?_ (Below.mono (by assumption) (by first | omega | (simp; done) | (simp; omega)))))⟩
/-- The index of the measure of a count: behind the last count that behind the last measure. -/
def plI (l : List (Int × Int)) (c : Int) : Nat := if c < total l then atM l c else l.length
theorem plI_in {l : List (Int × Int)} {c : Int} (h : c < total l) : plI l c = atM l c := by unfold plI; rw [if_pos h]
theorem plI_out {l : List (Int × Int)} {c : Int} (h : ¬ c < total l) : plI l c = l.length := by unfold plI; rw [if_neg h]

set_option maxHeartbeats 1000000 in
theorem placeOfCount_any (a : Option Addr) (cap : Nat) (l : List (Int × Int)) (hm : musOk l = true) {w : World} (ha : PairsAt w a l) (c : Int) (h0 : 0 ≤ c) (h9 : c ≤ 9223372036854775807) :
    Calls Try.prog 49 #[.slice a l.length cap, .int .i64 c] w fun e w' => e = .returned (.tuple #[.int .i64 (plI l c), .int .i64 (c - cn l (plI l c))]) ∧ Below w.heap.size w w' := by
  obtain ⟨n1, n2⟩ := musOk_len hm
  obtain ⟨t1, t2⟩ := total_bound hm
  have htot : total l = cn l l.length := rfl
  have Hm := Lib.hid hm
  have Htot := Lib.hid htot
  clear hm htot
  go_enter Try.func49, Try.ntmps49
  go_wp2
  go_loopw [1, 10] (fun s j wr => ∃ k : Nat, k ≤ l.length ∧ j = .int .i64 k ∧ s = .int .i64 (c - cn l k) ∧ cn l k ≤ c ∧ Below w.heap.size w wr) (fun _ j _ => l.length - (intOf j).toNat)
  case atStart => exact ⟨0, Nat.zero_le _, rfl, by simp [cn], h0, Below.refl _ _⟩
  case round =>
    obtain ⟨k, hk, rfl, rfl, hge, hbr⟩ := hrel
    have hsr := hbr.size
    by_cases hlt : k < l.length
    · obtain ⟨b, off, rfl, c0, c1⟩ := (ha.below hbr) k hlt
      obtain ⟨b1, b2⟩ := cn_bound Hm.out k hk
      obtain ⟨⟨b3, b4⟩, _⟩ := musOk_at Hm.out k hlt
      have hst : cn l (k + 1) = cn l k + sx l k := rfl
      by_cases hn : c - cn l k < sx l k
      · have hm2 := cn_mono Hm.out (i := k + 1) (j := l.length) (by omega) (Nat.le_refl _)
        have hT : plI l c = k := by
          rw [plI_in (by rw [Htot.out]; omega)]
          exact idx_eq Hm.out hge (by omega) (by omega) (Nat.le_refl _)
        have HT := Lib.hid hT
        clear hT hst hm2
        go_wp2
        go_ret2
        exact ⟨by rw [HT.out]; rfl, (by repeat (first | exact Below.refl _ _ | assumption | refine Below.drew ?_ | refine below_drewN ?_ _ | refine Below.alloc ?_ (by first | omega | (simp; done) | (simp; omega)) _ | refine Below.setCell ?_ (by first | omega | (simp; done) | (simp; omega)) _ | refine Below.trans ?_ (Below.mono (by assumption) (by first | omega | (simp; done) | (simp; omega)))))⟩
      · have v2 : IntKind.i64.wrap (c - cn l k - sx l k) = c - cn l k - sx l k := IntWalk.i64_in _ (by omega)
        have v3 : c - cn l k - sx l k = c - cn l (k + 1) := by omega
        have hge2 : cn l (k + 1) ≤ c := by omega
        have V3 := Lib.hid v3
        clear v3 hst
        go_wp2
        go_roundw
        case rel => exact ⟨k + 1, by omega, by go_num, by rw [V3.out], hge2, (by repeat (first | exact Below.refl _ _ | assumption | refine Below.drew ?_ | refine below_drewN ?_ _ | refine Below.alloc ?_ (by first | omega | (simp; done) | (simp; omega)) _ | refine Below.setCell ?_ (by first | omega | (simp; done) | (simp; omega)) _ | refine Below.trans ?_ (Below.mono (by assumption) (by first | omega | (simp; done) | (simp; omega)))))⟩
        case measure => simp [intOf]; omega
    · obtain rfl : k = l.length := by omega
      have hT : plI l c = l.length := plI_out (by rw [Htot.out]; omega)
      have HT := Lib.hid hT
      clear hT
      go_wp2
      go_ret2
      exact ⟨by rw [HT.out]; rfl, (by repeat (first | exact Below.refl _ _ | assumption | refine Below.drew ?_ | refine below_drewN ?_ _ | refine Below.alloc ?_ (by first | omega | (simp; done) | (simp; omega)) _ | refine Below.setCell ?_ (by first | omega | (simp; done) | (simp; omega)) _ | refine Below.trans ?_ (Below.mono (by assumption) (by first | omega | (simp; done) | (simp; omega)))))⟩

set_option maxHeartbeats 2000000 in
theorem beginOfCount_any (a : Option Addr) (cap : Nat) (l : List (Int × Int)) (hm : musOk l = true) {w : World} (ha : PairsAt w a l) (hcap : l.length ≤ cap) (c : Int) (h0 : 0 ≤ c) (h1 : c ≤ total l) :
    Calls Try.prog 52 #[.slice a l.length cap, .int .i64 c] w fun e w' => e = .returned (.int .i64 (timeM l c)) ∧ Below w.heap.size w w' := by
  obtain ⟨n1, n2⟩ := musOk_len hm
  obtain ⟨t1, t2⟩ := total_bound hm
  have HP := Lib.hid (fun (W : World) (hb : Below w.heap.size w W) => placeOfCount_any a cap l hm (ha.below hb) c h0 (by omega))
  have hpl : plI l c ≤ l.length ∧ cn l (plI l c) ≤ c ∧ (plI l c < l.length → c < cn l (plI l c + 1) ∧ timeM l c = tm l (plI l c) + lst (c - cn l (plI l c)) (sy l (plI l c))) ∧ (¬ plI l c < l.length → timeM l c = tm l (plI l c)) := by
    by_cases hc : c < total l
    · obtain ⟨a1, a2, a3⟩ := atM_lt hm h0 hc
      rw [plI_in hc]
      exact ⟨by omega, a2, fun _ => ⟨a3, timeM_at hm a1 a2 a3⟩, fun h => absurd a1 h⟩
    · rw [plI_out hc]
      exact ⟨by omega, by have : total l = cn l l.length := rfl; omega, fun h => absurd h (by omega), fun _ => timeM_end (by omega)⟩
  obtain ⟨n, hn⟩ : ∃ n, n = plI l c := ⟨_, rfl⟩
  rw [← hn] at hpl HP
  obtain ⟨p1, p2, p3, p4⟩ := hpl
  have P3 := Lib.hid p3
  have P4 := Lib.hid p4
  have Hm := Lib.hid hm
  clear hm p3 p4 hn
  go_enter Try.func52, Try.ntmps52
  go_wp2_with (go_at_call 49; (refine (HP.out _ (by repeat (first | exact Below.refl _ _ | assumption | refine Below.drew ?_ | refine below_drewN ?_ _ | refine Below.alloc ?_ (by first | omega | (simp; done) | (simp; omega)) _ | refine Below.setCell ?_ (by first | omega | (simp; done) | (simp; omega)) _ | refine Below.trans ?_ (Below.mono (by assumption) (by first | omega | (simp; done) | (simp; omega)))))).mono ?_; rintro e w1 ⟨rfl, hb1⟩; have hs1 := hb1.size))
  have hbw : Below w.heap.size w w1 := hb1
  (repeat clear hl1); (repeat clear hl2); (repeat clear hl3); (repeat clear hl4); (repeat clear hk1); (repeat clear hk2); (repeat clear hk3); (repeat clear hk4); (repeat clear hcn); (repeat clear hfn); (repeat clear hln); (repeat clear hz0); (repeat clear hz1); (repeat clear hz2); (repeat clear hs1); (repeat clear hb1)
  go_loopw [7, 20] (fun u j wr => ∃ k : Nat, k ≤ n ∧ j = .int .i64 k ∧ u = .int .i64 (tm l k) ∧ Below w.heap.size w wr) (fun _ j _ => n - (intOf j).toNat)
  case atStart => exact ⟨0, Nat.zero_le _, rfl, rfl, (by repeat (first | exact Below.refl _ _ | assumption | refine Below.drew ?_ | refine below_drewN ?_ _ | refine Below.alloc ?_ (by first | omega | (simp; done) | (simp; omega)) _ | refine Below.setCell ?_ (by first | omega | (simp; done) | (simp; omega)) _ | refine Below.trans ?_ (Below.mono (by assumption) (by first | omega | (simp; done) | (simp; omega)))))⟩
  case round =>
    obtain ⟨k, hk, rfl, rfl, hbr⟩ := hrel
    have hsr := hbr.size
    obtain ⟨b7, b8⟩ := tm_bound Hm.out k (by omega)
    by_cases hlt : k < n
    · obtain ⟨b, off, rfl, c0, c1⟩ := (ha.below hbr) k (by omega)
      obtain ⟨⟨b3, b4⟩, b5, b6⟩ := musOk_at Hm.out k (by omega)
      have htm : tm l (k + 1) = tm l k + lst (sx l k) (sy l k) := rfl
      obtain ⟨l1, l2⟩ := lst_bound (c := sx l k) (t := sy l k) (by omega) (by omega) b5 b6
      have v1 : IntKind.i64.wrap (tm l k + lst (sx l k) (sy l k)) = tm l k + lst (sx l k) (sy l k) := IntWalk.i64_in _ (by omega)
      have Htm := Lib.hid htm
      clear htm
      go_wp2_with (go_at_call 62; (refine (countsLast_any _ _ (by omega) (by omega) (by omega) (by omega) _).mono ?_; rintro e w' ⟨rfl, rfl⟩))
      go_roundw
      case rel => exact ⟨k + 1, by omega, by go_num, by rw [Htm.out], (by repeat (first | exact Below.refl _ _ | assumption | refine Below.drew ?_ | refine below_drewN ?_ _ | refine Below.alloc ?_ (by first | omega | (simp; done) | (simp; omega)) _ | refine Below.setCell ?_ (by first | omega | (simp; done) | (simp; omega)) _ | refine Below.trans ?_ (Below.mono (by assumption) (by first | omega | (simp; done) | (simp; omega)))))⟩
      case measure => simp [intOf]; omega
    · obtain rfl : k = n := by omega
      by_cases hin : k < l.length
      · obtain ⟨b, off, rfl, c0, c1⟩ := (ha.below hbr) k hin
        obtain ⟨⟨b3, b4⟩, b5, b6⟩ := musOk_at Hm.out k hin
        obtain ⟨q1, q2⟩ := P3.out hin
        have hst : cn l (k + 1) = cn l k + sx l k := rfl
        obtain ⟨l1, l2⟩ := lst_bound (c := c - cn l k) (t := sy l k) (by omega) (by omega) b5 b6
        have v1 : IntKind.i64.wrap (tm l k + lst (c - cn l k) (sy l k)) = tm l k + lst (c - cn l k) (sy l k) := IntWalk.i64_in _ (by omega)
        have i0 : (0 : Int) ≤ (k : Int) := by omega
        have i1 : (k : Int) < (l.length : Int) := by omega
        have Q2 := Lib.hid q2
        have u0 : 0 ≤ c - cn l k := by omega
        have u1 : c - cn l k ≤ 12 := by omega
        clear hst q2
        go_wp2_with (go_at_call 62; (refine (countsLast_any _ _ (by omega) (by omega) (by omega) (by omega) _).mono ?_; rintro e w' ⟨rfl, rfl⟩))
        go_ret
        exact ⟨by rw [Q2.out]; rfl, (by repeat (first | exact Below.refl _ _ | assumption | refine Below.drew ?_ | refine below_drewN ?_ _ | refine Below.alloc ?_ (by first | omega | (simp; done) | (simp; omega)) _ | refine Below.setCell ?_ (by first | omega | (simp; done) | (simp; omega)) _ | refine Below.trans ?_ (Below.mono (by assumption) (by first | omega | (simp; done) | (simp; omega)))))⟩
      · have q2 := P4.out hin
        have Q2 := Lib.hid q2
        clear q2
        go_wp2
        go_ret
        exact ⟨by rw [Q2.out]; rfl, (by repeat (first | exact Below.refl _ _ | assumption | refine Below.drew ?_ | refine below_drewN ?_ _ | refine Below.alloc ?_ (by first | omega | (simp; done) | (simp; omega)) _ | refine Below.setCell ?_ (by first | omega | (simp; done) | (simp; omega)) _ | refine Below.trans ?_ (Below.mono (by assumption) (by first | omega | (simp; done) | (simp; omega)))))⟩

end Go.Proofs.Ytbpphcdhbbhjpaa
