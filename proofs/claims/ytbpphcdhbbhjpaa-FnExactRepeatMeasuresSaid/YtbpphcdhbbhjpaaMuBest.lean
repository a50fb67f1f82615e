/- The fastest measure and tempos, as the other side finds them. No conditions but those written in each theorem. -/
import Derived.Test.YtbpphcdhbbhjpaaMuSpec
import Derived.Deep.RegionHeld3
import Derived.Deep.DrawnRows
import Derived.IntWalk
namespace Go.Proofs.Ytbpphcdhbbhjpaa
open Go.RowKit


attribute [local go_sem ↓] Go.wp_at_zero Go.wp_at_succ

set_option maxHeartbeats 1000000 in
theorem specFastest_no (a : Option Addr) (cap : Nat) (l : List (Int × Int)) (hl : l.length ≤ 1048576) {w : World} (ha : PairsAt w a l) (hm : musOk l = false) :
    Calls Try.prog 35 #[.slice a l.length cap] w fun e w' => e = .returned (.tuple #[.int .i64 0, .bool false]) ∧ Below w.heap.size w w' := by
  have HG := Lib.hid (fun (W : World) (hb : Below w.heap.size w W) => muGood_any a cap l hl (ha.below hb))
  skip
  all_goals
    go_enter Try.func35, Try.ntmps35
    go_wp2_with (first | (go_at_call 41; (refine (HG.out _ (by repeat (first | exact Below.refl _ _ | assumption | refine Below.drew ?_ | refine below_drewN ?_ _ | refine Below.alloc ?_ (by first | omega | (simp; done) | (simp; omega)) _ | refine Below.setCell ?_ (by first | omega | (simp; done) | (simp; omega)) _ | refine Below.trans ?_ (Below.mono (by assumption) (by first | omega | (simp; done) | (simp; omega)))))).mono ?_; rintro e w1 ⟨rfl, hb1⟩; have hs1 := hb1.size)))
    go_ret2
    exact ⟨rfl, (by repeat (first | exact Below.refl _ _ | assumption | refine Below.drew ?_ | refine below_drewN ?_ _ | refine Below.alloc ?_ (by first | omega | (simp; done) | (simp; omega)) _ | refine Below.setCell ?_ (by first | omega | (simp; done) | (simp; omega)) _ | refine Below.trans ?_ (Below.mono (by assumption) (by first | omega | (simp; done) | (simp; omega)))))⟩

set_option maxHeartbeats 1000000 in
theorem specFastest_yes (a : Option Addr) (cap : Nat) (l : List (Int × Int)) (hm : musOk l = true) {w : World} (ha : PairsAt w a l) :
    Calls Try.prog 35 #[.slice a l.length cap] w fun e w' => e = .returned (.tuple #[.int .i64 (fst l l.length : Nat), .bool true]) ∧ Below w.heap.size w w' := by
  obtain ⟨n1, n2⟩ := musOk_len hm
  have hl : l.length ≤ 1048576 := by omega
  have HG := Lib.hid (fun (W : World) (hb : Below w.heap.size w W) => muGood_any a cap l hl (ha.below hb))
  go_enter Try.func35, Try.ntmps35
  go_wp2_with (first | (go_at_call 41; (refine (HG.out _ (by repeat (first | exact Below.refl _ _ | assumption | refine Below.drew ?_ | refine below_drewN ?_ _ | refine Below.alloc ?_ (by first | omega | (simp; done) | (simp; omega)) _ | refine Below.setCell ?_ (by first | omega | (simp; done) | (simp; omega)) _ | refine Below.trans ?_ (Below.mono (by assumption) (by first | omega | (simp; done) | (simp; omega)))))).mono ?_; rintro e w1 ⟨rfl, hb1⟩; have hs1 := hb1.size)))
  go_loopw [4, 12] (fun bst i wr => ∃ k : Nat, k ≤ l.length ∧ i = .int .i64 k ∧ bst = .int .i64 (fst l k : Nat) ∧ Below w.heap.size w wr) (fun _ i _ => l.length - (intOf i).toNat)
  case atStart => exact ⟨0, Nat.zero_le _, rfl, rfl, (by repeat (first | exact Below.refl _ _ | assumption | refine Below.drew ?_ | refine below_drewN ?_ _ | refine Below.alloc ?_ (by first | omega | (simp; done) | (simp; omega)) _ | refine Below.setCell ?_ (by first | omega | (simp; done) | (simp; omega)) _ | refine Below.trans ?_ (Below.mono (by assumption) (by first | omega | (simp; done) | (simp; omega)))))⟩
  case round =>
    obtain ⟨k, hk, rfl, rfl, hbr⟩ := hrel
    have hsr := hbr.size
    (repeat clear hl1); (repeat clear hl2); (repeat clear hl3); (repeat clear hl4); (repeat clear hk1); (repeat clear hk2); (repeat clear hk3); (repeat clear hk4); (repeat clear hcn); (repeat clear hfn); (repeat clear hln); (repeat clear hz0); (repeat clear hz1); (repeat clear hz2); (repeat clear hs1); (repeat clear hb1)
    have hmx := fst_lt l (by omega) k hk
    by_cases hlt : k < l.length
    · obtain ⟨b, off, rfl, c2, c3⟩ := (ha.below hbr) k hlt
      obtain ⟨b', off', hbb, c4, c5⟩ := (ha.below hbr) _ hmx
      simp only [Option.some.injEq, Addr.mk.injEq] at hbb
      obtain ⟨hb1', hb2', _⟩ := hbb
      subst hb1' hb2'
      have i0 : (0 : Int) ≤ (fst l k : Int) := by omega
      have i1 : (fst l k : Int) < (l.length : Int) := by omega
      have n4 := World.new_ne wr _ c4
      have lb := World.block_lt_of_cell? wr _ c4
      have lb' : b ≠ wr.heap.size := Nat.ne_of_lt lb
      by_cases hc : sy l (fst l k) < sy l k
      · have hnb := fst_yes hc
        have Hnb := Lib.hid hnb
        clear hnb
        go_wp2
        go_quiet (fail)
        go_wp2
        go_roundw
        case rel => exact ⟨k + 1, by omega, by go_num, by rw [Hnb.out], (by repeat (first | exact Below.refl _ _ | assumption | refine Below.drew ?_ | refine below_drewN ?_ _ | refine Below.alloc ?_ (by first | omega | (simp; done) | (simp; omega)) _ | refine Below.setCell ?_ (by first | omega | (simp; done) | (simp; omega)) _ | refine Below.trans ?_ (Below.mono (by assumption) (by first | omega | (simp; done) | (simp; omega)))))⟩
        case measure => simp [intOf]; omega
      · have hnb := fst_no hc
        have Hnb := Lib.hid hnb
        clear hnb
        go_wp2
        go_quiet (fail)
        go_wp2
        go_roundw
        case rel => exact ⟨k + 1, by omega, by go_num, by rw [Hnb.out], (by repeat (first | exact Below.refl _ _ | assumption | refine Below.drew ?_ | refine below_drewN ?_ _ | refine Below.alloc ?_ (by first | omega | (simp; done) | (simp; omega)) _ | refine Below.setCell ?_ (by first | omega | (simp; done) | (simp; omega)) _ | refine Below.trans ?_ (Below.mono (by assumption) (by first | omega | (simp; done) | (simp; omega)))))⟩
        case measure => simp [intOf]; omega
    · obtain rfl : k = l.length := by omega
      go_wp2
      go_ret2
      exact ⟨rfl, (by repeat (first | exact Below.refl _ _ | assumption | refine Below.drew ?_ | refine below_drewN ?_ _ | refine Below.alloc ?_ (by first | omega | (simp; done) | (simp; omega)) _ | refine Below.setCell ?_ (by first | omega | (simp; done) | (simp; omega)) _ | refine Below.trans ?_ (Below.mono (by assumption) (by first | omega | (simp; done) | (simp; omega)))))⟩
theorem specFastest_any (a : Option Addr) (cap : Nat) (l : List (Int × Int)) (hl : l.length ≤ 1048576) {w : World} (ha : PairsAt w a l) :
    Calls Try.prog 35 #[.slice a l.length cap] w fun e w' => e = .returned (.tuple #[.int .i64 (guardI (musOk l) (fst l l.length : Nat)), .bool (musOk l)]) ∧ Below w.heap.size w w' := by
  cases hm : musOk l
  · exact specFastest_no a cap l hl ha hm
  · exact specFastest_yes a cap l hm ha

set_option maxHeartbeats 1000000 in
theorem specTempoFor_no (c t : Int) (hg : (inB 1 c 12 && inB 0 t 20000) = false) (w : World) :
    Calls Try.prog 37 #[.int .i64 c, .int .i64 t] w fun e w' => e = .returned (.tuple #[.int .i64 0, .bool false]) ∧ Below w.heap.size w w' := by
  cases h1 : inB 1 c 12 <;> cases h2 : inB 0 t 20000
  all_goals first | (exfalso; rw [h1, h2] at hg; cases hg; done) | clear hg
  all_goals
    go_enter Try.func37, Try.ntmps37
    go_wp2_with (first | (go_at_call 53; (refine (l1In_any _ _ _ _).mono ?_; rintro e w' ⟨rfl, rfl⟩)))
    go_ret2
    exact ⟨rfl, (by repeat (first | exact Below.refl _ _ | assumption | refine Below.drew ?_ | refine below_drewN ?_ _ | refine Below.alloc ?_ (by first | omega | (simp; done) | (simp; omega)) _ | refine Below.setCell ?_ (by first | omega | (simp; done) | (simp; omega)) _ | refine Below.trans ?_ (Below.mono (by assumption) (by first | omega | (simp; done) | (simp; omega)))))⟩
set_option maxHeartbeats 1000000 in
theorem specTempoFor_yes (c t : Int) (h1 : inB 1 c 12 = true) (h2 : inB 0 t 20000 = true) (w : World) :
    Calls Try.prog 37 #[.int .i64 c, .int .i64 t] w fun e w' => e = .returned (.tuple #[.int .i64 (tempoM c t), .bool (hasT c t)]) ∧ Below w.heap.size w w' := by
  obtain ⟨c1, c2⟩ := inB_iff.1 h1
  obtain ⟨t1, t2⟩ := inB_iff.1 h2
  have htm : tempoM c t = tpo c t 181 := by unfold tempoM; rw [h1, h2]; rfl
  have hht : hasT c t = decide (tpo c t 181 ≠ 0) := by unfold hasT; rw [htm]
  have Htm := Lib.hid htm
  have Hht := Lib.hid hht
  clear htm hht
  go_enter Try.func37, Try.ntmps37
  go_wp2_with (first | (go_at_call 53; (refine (l1In_any _ _ _ _).mono ?_; rintro e w' ⟨rfl, rfl⟩)))
  go_loopw [6] (fun i wr => ∃ k : Nat, k ≤ 181 ∧ i = .int .i64 (39 + (k : Int)) ∧ Hid (tpo c t 181 = tpo c t k) ∧ Below w.heap.size w wr) (fun i _ => (intOf i).toNat)
  case atStart => exact ⟨181, by omega, rfl, Lib.hid rfl, (by repeat (first | exact Below.refl _ _ | assumption | refine Below.drew ?_ | refine below_drewN ?_ _ | refine Below.alloc ?_ (by first | omega | (simp; done) | (simp; omega)) _ | refine Below.setCell ?_ (by first | omega | (simp; done) | (simp; omega)) _ | refine Below.trans ?_ (Below.mono (by assumption) (by first | omega | (simp; done) | (simp; omega)))))⟩
  case round =>
    obtain ⟨k, hk, rfl, hacc, hbr⟩ := hrel
    have hsr := hbr.size
    (repeat clear hl1); (repeat clear hl2); (repeat clear hl3); (repeat clear hl4); (repeat clear hk1); (repeat clear hk2); (repeat clear hk3); (repeat clear hk4); (repeat clear hcn); (repeat clear hfn); (repeat clear hln); (repeat clear hz0); (repeat clear hz1); (repeat clear hz2); (repeat clear hs1); (repeat clear hb1)
    cases k with
    | zero =>
      have e0 : tpo c t 181 = 0 := hacc.out
      have E0 := Lib.hid e0
      clear e0
      go_wp2
      go_ret2
      exact ⟨by rw [Htm.out, Hht.out, E0.out]; rfl, (by repeat (first | exact Below.refl _ _ | assumption | refine Below.drew ?_ | refine below_drewN ?_ _ | refine Below.alloc ?_ (by first | omega | (simp; done) | (simp; omega)) _ | refine Below.setCell ?_ (by first | omega | (simp; done) | (simp; omega)) _ | refine Below.trans ?_ (Below.mono (by assumption) (by first | omega | (simp; done) | (simp; omega)))))⟩
    | succ m =>
      have v1 : 39 + ((m + 1 : Nat) : Int) = 40 + (m : Int) := by omega
      rw [v1]
      have v2 : IntKind.i64.wrap (40 + (m : Int) - 1) = 39 + (m : Int) := by rw [IntWalk.i64_in _ (by omega)]; omega
      have v3 : (40 : Int) ≤ 40 + (m : Int) := by omega
      by_cases hn : t ≤ lst c (40 + (m : Int))
      · have e0 : tpo c t 181 = 40 + (m : Int) := hacc.out.trans (tpo_yes hn)
        have e1 : hasT c t = true := by rw [Hht.out, e0]; exact decide_eq_true (by omega)
        have E0 := Lib.hid e0
        have E1 := Lib.hid e1
        clear e0 e1 v1
        go_wp2_with (go_at_call 61; (refine (muLasts_any _ _ (by omega) (by omega) (by omega) (by omega) _).mono ?_; rintro e w' ⟨rfl, rfl⟩))
        go_ret2
        exact ⟨by rw [Htm.out, E1.out, E0.out]; rfl, (by repeat (first | exact Below.refl _ _ | assumption | refine Below.drew ?_ | refine below_drewN ?_ _ | refine Below.alloc ?_ (by first | omega | (simp; done) | (simp; omega)) _ | refine Below.setCell ?_ (by first | omega | (simp; done) | (simp; omega)) _ | refine Below.trans ?_ (Below.mono (by assumption) (by first | omega | (simp; done) | (simp; omega)))))⟩
      · have e0 := Lib.hid (hacc.out.trans (tpo_no hn))
        clear v1
        go_wp2_with (go_at_call 61; (refine (muLasts_any _ _ (by omega) (by omega) (by omega) (by omega) _).mono ?_; rintro e w' ⟨rfl, rfl⟩))
        go_roundw
        case rel => exact ⟨m, by omega, by first | rfl | go_num, e0, (by repeat (first | exact Below.refl _ _ | assumption | refine Below.drew ?_ | refine below_drewN ?_ _ | refine Below.alloc ?_ (by first | omega | (simp; done) | (simp; omega)) _ | refine Below.setCell ?_ (by first | omega | (simp; done) | (simp; omega)) _ | refine Below.trans ?_ (Below.mono (by assumption) (by first | omega | (simp; done) | (simp; omega)))))⟩
        case measure => simp [intOf]; omega
theorem specTempoFor_any (c t : Int) (w : World) :
    Calls Try.prog 37 #[.int .i64 c, .int .i64 t] w fun e w' => e = .returned (.tuple #[.int .i64 (tempoM c t), .bool (hasT c t)]) ∧ Below w.heap.size w w' := by
  cases hg : inB 1 c 12 && inB 0 t 20000
  · have e : tempoM c t = 0 := by unfold tempoM; rw [hg]; rfl
    have e2 : hasT c t = false := by unfold hasT; rw [e]; rfl
    rw [e, e2]
    exact specTempoFor_no c t hg w
  · rw [Bool.and_eq_true] at hg
    exact specTempoFor_yes c t hg.1 hg.2 w

end Go.Proofs.Ytbpphcdhbbhjpaa
