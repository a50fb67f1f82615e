/- Times of music, as the other side reckons them: what each call does. No conditions but those written in each theorem. -/
import Derived.Test.YtbpphcdhbbhjpaaMuCount
import Derived.Deep.RegionHeld3
import Derived.Deep.DrawnRows
import Derived.IntWalk
namespace Go.Proofs.Ytbpphcdhbbhjpaa
open Go.RowKit


attribute [local go_sem ↓] Go.wp_at_zero Go.wp_at_succ

set_option maxHeartbeats 1000000 in
theorem muTime_any (a : Option Addr) (cap : Nat) (l : List (Int × Int)) (hm : musOk l = true) {w : World} (ha : PairsAt w a l) (c : Int) (h0 : 0 ≤ c) (h1 : c ≤ total l) :
    Calls Try.prog 51 #[.slice a l.length cap, .int .i64 c] w fun e w' => e = .returned (.int .i64 (timeM l c)) ∧ Below w.heap.size w w' := by
  obtain ⟨n1, n2⟩ := musOk_len hm
  obtain ⟨t1, t2⟩ := total_bound hm
  have htot : total l = cn l l.length := rfl
  have Hm := Lib.hid hm
  have Htot := Lib.hid htot
  clear hm htot
  go_enter Try.func51, Try.ntmps51
  go_wp2
  go_loopw [1, 5, 10] (fun s u j wr => ∃ k : Nat, k ≤ l.length ∧ j = .int .i64 k ∧ s = .int .i64 (c - cn l k) ∧ u = .int .i64 (tm l k) ∧ cn l k ≤ c ∧ Below w.heap.size w wr) (fun _ _ j _ => l.length - (intOf j).toNat)
  case atStart => exact ⟨0, Nat.zero_le _, rfl, by simp [cn], rfl, h0, Below.refl _ _⟩
  case round =>
    obtain ⟨k, hk, rfl, rfl, rfl, hge, hbr⟩ := hrel
    have hsr := hbr.size
    by_cases hlt : k < l.length
    · obtain ⟨b, off, rfl, c0, c1⟩ := (ha.below hbr) k hlt
      obtain ⟨b1, b2⟩ := cn_bound Hm.out k hk
      obtain ⟨⟨b3, b4⟩, b5, b6⟩ := musOk_at Hm.out k hlt
      obtain ⟨b7, b8⟩ := tm_bound Hm.out k hk
      have hst : cn l (k + 1) = cn l k + sx l k := rfl
      have htm : tm l (k + 1) = tm l k + lst (sx l k) (sy l k) := rfl
      by_cases hn : c - cn l k < sx l k
      · obtain ⟨l1, l2⟩ := lst_bound (c := c - cn l k) (t := sy l k) (by omega) (by omega) b5 b6
        have hT := timeM_at Hm.out hlt hge (by omega)
        have HT := Lib.hid hT
        have v1 : IntKind.i64.wrap (tm l k + lst (c - cn l k) (sy l k)) = tm l k + lst (c - cn l k) (sy l k) := IntWalk.i64_in _ (by omega)
        clear hT hst htm
        go_wp2_with (go_at_call 61; (refine (muLasts_any _ _ (by omega) (by omega) (by omega) (by omega) _).mono ?_; rintro e w' ⟨rfl, rfl⟩))
        go_ret
        exact ⟨by rw [HT.out]; rfl, (by repeat (first | exact Below.refl _ _ | assumption | refine Below.drew ?_ | refine below_drewN ?_ _ | refine Below.alloc ?_ (by first | omega | (simp; done) | (simp; omega)) _ | refine Below.setCell ?_ (by first | omega | (simp; done) | (simp; omega)) _ | refine Below.trans ?_ (Below.mono (by assumption) (by first | omega | (simp; done) | (simp; omega)))))⟩
      · obtain ⟨l1, l2⟩ := lst_bound (c := sx l k) (t := sy l k) (by omega) (by omega) b5 b6
        have v1 : IntKind.i64.wrap (tm l k + lst (sx l k) (sy l k)) = tm l k + lst (sx l k) (sy l k) := IntWalk.i64_in _ (by omega)
        have v2 : IntKind.i64.wrap (c - cn l k - sx l k) = c - cn l k - sx l k := IntWalk.i64_in _ (by omega)
        have v3 : c - cn l k - sx l k = c - cn l (k + 1) := by omega
        have hge2 : cn l (k + 1) ≤ c := by omega
        have V3 := Lib.hid v3
        have Htm := Lib.hid htm
        clear v3 hst htm
        go_wp2_with (go_at_call 61; (refine (muLasts_any _ _ (by omega) (by omega) (by omega) (by omega) _).mono ?_; rintro e w' ⟨rfl, rfl⟩))
        go_roundw
        case rel => exact ⟨k + 1, by omega, by go_num, by rw [V3.out], by rw [Htm.out], hge2, (by repeat (first | exact Below.refl _ _ | assumption | refine Below.drew ?_ | refine below_drewN ?_ _ | refine Below.alloc ?_ (by first | omega | (simp; done) | (simp; omega)) _ | refine Below.setCell ?_ (by first | omega | (simp; done) | (simp; omega)) _ | refine Below.trans ?_ (Below.mono (by assumption) (by first | omega | (simp; done) | (simp; omega)))))⟩
        case measure => simp [intOf]; omega
    · obtain rfl : k = l.length := by omega
      have hT := timeM_end (l := l) (c := c) (by rw [Htot.out]; exact hge)
      have HT := Lib.hid hT
      clear hT
      go_wp2
      go_ret
      exact ⟨by rw [HT.out]; rfl, (by repeat (first | exact Below.refl _ _ | assumption | refine Below.drew ?_ | refine below_drewN ?_ _ | refine Below.alloc ?_ (by first | omega | (simp; done) | (simp; omega)) _ | refine Below.setCell ?_ (by first | omega | (simp; done) | (simp; omega)) _ | refine Below.trans ?_ (Below.mono (by assumption) (by first | omega | (simp; done) | (simp; omega)))))⟩

set_option maxHeartbeats 1000000 in
theorem specTimeOf_no (a : Option Addr) (cap : Nat) (l : List (Int × Int)) (hl : l.length ≤ 1048576) {w : World} (ha : PairsAt w a l) (c : Int) (hg : upTo l c = false) :
    Calls Try.prog 23 #[.slice a l.length cap, .int .i64 c] w fun e w' => e = .returned (.tuple #[.int .i64 0, .bool false]) ∧ Below w.heap.size w w' := by
  have HG := Lib.hid (fun (W : World) (hb : Below w.heap.size w W) => muUpTo_any a cap l hl (ha.below hb) c)
  skip
  all_goals
    go_enter Try.func23, Try.ntmps23
    go_wp2_with (first | (go_at_call 50; (refine (HG.out _ (by repeat (first | exact Below.refl _ _ | assumption | refine Below.drew ?_ | refine below_drewN ?_ _ | refine Below.alloc ?_ (by first | omega | (simp; done) | (simp; omega)) _ | refine Below.setCell ?_ (by first | omega | (simp; done) | (simp; omega)) _ | refine Below.trans ?_ (Below.mono (by assumption) (by first | omega | (simp; done) | (simp; omega)))))).mono ?_; rintro e w1 ⟨rfl, hb1⟩; have hs1 := hb1.size)))
    go_ret2
    exact ⟨rfl, (by repeat (first | exact Below.refl _ _ | assumption | refine Below.drew ?_ | refine below_drewN ?_ _ | refine Below.alloc ?_ (by first | omega | (simp; done) | (simp; omega)) _ | refine Below.setCell ?_ (by first | omega | (simp; done) | (simp; omega)) _ | refine Below.trans ?_ (Below.mono (by assumption) (by first | omega | (simp; done) | (simp; omega)))))⟩

set_option maxHeartbeats 1000000 in
theorem specTimeOf_yes (a : Option Addr) (cap : Nat) (l : List (Int × Int)) (hl : l.length ≤ 1048576) {w : World} (ha : PairsAt w a l) (c : Int) (hg : upTo l c = true) :
    Calls Try.prog 23 #[.slice a l.length cap, .int .i64 c] w fun e w' => e = .returned (.tuple #[.int .i64 (timeM l c), .bool true]) ∧ Below w.heap.size w w' := by
  obtain ⟨hm, h0, h1⟩ := upTo_iff.1 hg
  have HG := Lib.hid (fun (W : World) (hb : Below w.heap.size w W) => muUpTo_any a cap l hl (ha.below hb) c)
  have HT := Lib.hid (fun (W : World) (hb : Below w.heap.size w W) => muTime_any a cap l hm (ha.below hb) c h0 h1)
  skip
  all_goals
    go_enter Try.func23, Try.ntmps23
    go_wp2_with (first | (go_at_call 50; (refine (HG.out _ (by repeat (first | exact Below.refl _ _ | assumption | refine Below.drew ?_ | refine below_drewN ?_ _ | refine Below.alloc ?_ (by first | omega | (simp; done) | (simp; omega)) _ | refine Below.setCell ?_ (by first | omega | (simp; done) | (simp; omega)) _ | refine Below.trans ?_ (Below.mono (by assumption) (by first | omega | (simp; done) | (simp; omega)))))).mono ?_; rintro e w1 ⟨rfl, hb1⟩; have hs1 := hb1.size)) | (go_at_call 51; (refine (HT.out _ (by repeat (first | exact Below.refl _ _ | assumption | refine Below.drew ?_ | refine below_drewN ?_ _ | refine Below.alloc ?_ (by first | omega | (simp; done) | (simp; omega)) _ | refine Below.setCell ?_ (by first | omega | (simp; done) | (simp; omega)) _ | refine Below.trans ?_ (Below.mono (by assumption) (by first | omega | (simp; done) | (simp; omega)))))).mono ?_; rintro e w1 ⟨rfl, hb1⟩; have hs1 := hb1.size)))
    go_ret2
    exact ⟨rfl, (by repeat (first | exact Below.refl _ _ | assumption | refine Below.drew ?_ | refine below_drewN ?_ _ | refine Below.alloc ?_ (by first | omega | (simp; done) | (simp; omega)) _ | refine Below.setCell ?_ (by first | omega | (simp; done) | (simp; omega)) _ | refine Below.trans ?_ (Below.mono (by assumption) (by first | omega | (simp; done) | (simp; omega)))))⟩

theorem specTimeOf_any (a : Option Addr) (cap : Nat) (l : List (Int × Int)) (hl : l.length ≤ 1048576) {w : World} (ha : PairsAt w a l) (c : Int) :
    Calls Try.prog 23 #[.slice a l.length cap, .int .i64 c] w fun e w' => e = .returned (.tuple #[.int .i64 (guardI (upTo l c) (timeM l c)), .bool (upTo l c)]) ∧ Below w.heap.size w w' := by
  cases hg : upTo l c
  · exact specTimeOf_no a cap l hl ha c hg
  · exact specTimeOf_yes a cap l hl ha c hg
/-- Is there a count at the time? -/
def canAt (l : List (Int × Int)) (t : Int) : Bool := musOk l && inB 0 t (timeM l (total l) - 1)
theorem canAt_iff {l : List (Int × Int)} {t : Int} : canAt l t = true ↔ musOk l = true ∧ 0 ≤ t ∧ t < timeM l (total l) := by
  unfold canAt
  rw [Bool.and_eq_true, inB_iff]
  constructor <;> (intro h; refine ⟨h.1, ?_, ?_⟩ <;> omega)
theorem canAt_no {l : List (Int × Int)} {t : Int} (hm : musOk l = true) (h : canAt l t = false) : inB 0 t (timeM l (total l) - 1) = false := by
  unfold canAt at h
  rw [hm] at h
  exact h
theorem canAt_yes {l : List (Int × Int)} {t : Int} (hm : musOk l = true) (h : canAt l t = true) : inB 0 t (timeM l (total l) - 1) = true := by
  unfold canAt at h
  rw [hm] at h
  exact h
/-- The count at a time. -/
def cntAt (l : List (Int × Int)) (t : Int) : Int := lastC l t (total l).toNat
theorem cntAt_eq {l : List (Int × Int)} (h : musOk l = true) {t : Int} {c : Nat} (h1 : timeM l c ≤ t) (h2 : t < timeM l ((c : Int) + 1)) (h3 : (c : Int) ≤ total l) : cntAt l t = c := by
  have := total_bound h
  exact lastC_eq h h1 h2 (by omega) (by omega)

set_option maxHeartbeats 1000000 in
theorem specCountAt_bad (a : Option Addr) (cap : Nat) (l : List (Int × Int)) (hl : l.length ≤ 1048576) {w : World} (ha : PairsAt w a l) (t : Int) (hm : musOk l = false) :
    Calls Try.prog 25 #[.slice a l.length cap, .int .i64 t] w fun e w' => e = .returned (.tuple #[.int .i64 0, .bool false]) ∧ Below w.heap.size w w' := by
  have HG := Lib.hid (fun (W : World) (hb : Below w.heap.size w W) => muGood_any a cap l hl (ha.below hb))
  skip
  all_goals
    go_enter Try.func25, Try.ntmps25
    go_wp2_with (first | (go_at_call 41; (refine (HG.out _ (by repeat (first | exact Below.refl _ _ | assumption | refine Below.drew ?_ | refine below_drewN ?_ _ | refine Below.alloc ?_ (by first | omega | (simp; done) | (simp; omega)) _ | refine Below.setCell ?_ (by first | omega | (simp; done) | (simp; omega)) _ | refine Below.trans ?_ (Below.mono (by assumption) (by first | omega | (simp; done) | (simp; omega)))))).mono ?_; rintro e w1 ⟨rfl, hb1⟩; have hs1 := hb1.size)))
    go_ret2
    exact ⟨rfl, (by repeat (first | exact Below.refl _ _ | assumption | refine Below.drew ?_ | refine below_drewN ?_ _ | refine Below.alloc ?_ (by first | omega | (simp; done) | (simp; omega)) _ | refine Below.setCell ?_ (by first | omega | (simp; done) | (simp; omega)) _ | refine Below.trans ?_ (Below.mono (by assumption) (by first | omega | (simp; done) | (simp; omega)))))⟩

set_option maxHeartbeats 1000000 in
theorem specCountAt_no (a : Option Addr) (cap : Nat) (l : List (Int × Int)) (hm : musOk l = true) {w : World} (ha : PairsAt w a l) (t : Int) (hg : canAt l t = false) :
    Calls Try.prog 25 #[.slice a l.length cap, .int .i64 t] w fun e w' => e = .returned (.tuple #[.int .i64 0, .bool false]) ∧ Below w.heap.size w w' := by
  have hl : l.length ≤ 1048576 := by have := (musOk_len hm).2; omega
  obtain ⟨t1, t2⟩ := total_bound hm
  obtain ⟨t3, t4⟩ := time_bound hm (c := total l) (by omega)
  have v1 : IntKind.i64.wrap (timeM l (total l) - 1) = timeM l (total l) - 1 := IntWalk.i64_in _ (by omega)
  have hin := canAt_no hm hg
  have HG := Lib.hid (fun (W : World) (hb : Below w.heap.size w W) => muGood_any a cap l hl (ha.below hb))
  have HC := Lib.hid (fun (W : World) (hb : Below w.heap.size w W) => muCounts_any a cap l hm (ha.below hb))
  have HT := Lib.hid (fun (W : World) (hb : Below w.heap.size w W) (c : Int) (h0 : 0 ≤ c) (h1 : c ≤ total l) => muTime_any a cap l hm (ha.below hb) c h0 h1)
  skip
  all_goals
    go_enter Try.func25, Try.ntmps25
    go_wp2_with (first | (go_at_call 41; (refine (HG.out _ (by repeat (first | exact Below.refl _ _ | assumption | refine Below.drew ?_ | refine below_drewN ?_ _ | refine Below.alloc ?_ (by first | omega | (simp; done) | (simp; omega)) _ | refine Below.setCell ?_ (by first | omega | (simp; done) | (simp; omega)) _ | refine Below.trans ?_ (Below.mono (by assumption) (by first | omega | (simp; done) | (simp; omega)))))).mono ?_; rintro e w1 ⟨rfl, hb1⟩; have hs1 := hb1.size)) | (go_at_call 45; (refine (HC.out _ (by repeat (first | exact Below.refl _ _ | assumption | refine Below.drew ?_ | refine below_drewN ?_ _ | refine Below.alloc ?_ (by first | omega | (simp; done) | (simp; omega)) _ | refine Below.setCell ?_ (by first | omega | (simp; done) | (simp; omega)) _ | refine Below.trans ?_ (Below.mono (by assumption) (by first | omega | (simp; done) | (simp; omega)))))).mono ?_; rintro e w1 ⟨rfl, hb1⟩; have hs1 := hb1.size)) | (go_at_call 51; (refine (HT.out _ (by repeat (first | exact Below.refl _ _ | assumption | refine Below.drew ?_ | refine below_drewN ?_ _ | refine Below.alloc ?_ (by first | omega | (simp; done) | (simp; omega)) _ | refine Below.setCell ?_ (by first | omega | (simp; done) | (simp; omega)) _ | refine Below.trans ?_ (Below.mono (by assumption) (by first | omega | (simp; done) | (simp; omega))))) _ (by omega) (by omega)).mono ?_; rintro e w1 ⟨rfl, hb1⟩; have hs1 := hb1.size)) | (go_at_call 53; (refine (l1In_any _ _ _ _).mono ?_; rintro e w' ⟨rfl, rfl⟩)))
    go_ret2
    exact ⟨rfl, (by repeat (first | exact Below.refl _ _ | assumption | refine Below.drew ?_ | refine below_drewN ?_ _ | refine Below.alloc ?_ (by first | omega | (simp; done) | (simp; omega)) _ | refine Below.setCell ?_ (by first | omega | (simp; done) | (simp; omega)) _ | refine Below.trans ?_ (Below.mono (by assumption) (by first | omega | (simp; done) | (simp; omega)))))⟩

set_option maxHeartbeats 1000000 in
theorem specCountAt_yes (a : Option Addr) (cap : Nat) (l : List (Int × Int)) (hm : musOk l = true) {w : World} (ha : PairsAt w a l) (t : Int) (hg : canAt l t = true) :
    Calls Try.prog 25 #[.slice a l.length cap, .int .i64 t] w fun e w' => e = .returned (.tuple #[.int .i64 (cntAt l t), .bool true]) ∧ Below w.heap.size w w' := by
  have hl : l.length ≤ 1048576 := by have := (musOk_len hm).2; omega
  obtain ⟨t1, t2⟩ := total_bound hm
  obtain ⟨t3, t4⟩ := time_bound hm (c := total l) (by omega)
  have v1 : IntKind.i64.wrap (timeM l (total l) - 1) = timeM l (total l) - 1 := IntWalk.i64_in _ (by omega)
  have hin := canAt_yes hm hg
  obtain ⟨_, g0, g1⟩ := canAt_iff.1 hg
  have HG := Lib.hid (fun (W : World) (hb : Below w.heap.size w W) => muGood_any a cap l hl (ha.below hb))
  have HC := Lib.hid (fun (W : World) (hb : Below w.heap.size w W) => muCounts_any a cap l hm (ha.below hb))
  have HT := Lib.hid (fun (W : World) (hb : Below w.heap.size w W) (c : Int) (h0 : 0 ≤ c) (h1 : c ≤ total l) => muTime_any a cap l hm (ha.below hb) c h0 h1)
  have Hm := Lib.hid hm
  have hz : timeM l 0 ≤ t := by
    obtain ⟨i, hi, h2, h3⟩ := at_exists (l := l) (c := 0) (by omega) l.length (by unfold total at t1; omega)
    have hi0 : i = 0 := by
      have := (cn_bound hm i (by omega)).1
      omega
    subst hi0
    rw [timeM_at hm (by omega) (by simp [cn]) h3]
    simpa [tm, cn, lst] using g0
  clear hm
  go_enter Try.func25, Try.ntmps25
  go_wp2_with (first | (go_at_call 41; (refine (HG.out _ (by repeat (first | exact Below.refl _ _ | assumption | refine Below.drew ?_ | refine below_drewN ?_ _ | refine Below.alloc ?_ (by first | omega | (simp; done) | (simp; omega)) _ | refine Below.setCell ?_ (by first | omega | (simp; done) | (simp; omega)) _ | refine Below.trans ?_ (Below.mono (by assumption) (by first | omega | (simp; done) | (simp; omega)))))).mono ?_; rintro e w1 ⟨rfl, hb1⟩; have hs1 := hb1.size)) | (go_at_call 45; (refine (HC.out _ (by repeat (first | exact Below.refl _ _ | assumption | refine Below.drew ?_ | refine below_drewN ?_ _ | refine Below.alloc ?_ (by first | omega | (simp; done) | (simp; omega)) _ | refine Below.setCell ?_ (by first | omega | (simp; done) | (simp; omega)) _ | refine Below.trans ?_ (Below.mono (by assumption) (by first | omega | (simp; done) | (simp; omega)))))).mono ?_; rintro e w1 ⟨rfl, hb1⟩; have hs1 := hb1.size)) | (go_at_call 51; (refine (HT.out _ (by repeat (first | exact Below.refl _ _ | assumption | refine Below.drew ?_ | refine below_drewN ?_ _ | refine Below.alloc ?_ (by first | omega | (simp; done) | (simp; omega)) _ | refine Below.setCell ?_ (by first | omega | (simp; done) | (simp; omega)) _ | refine Below.trans ?_ (Below.mono (by assumption) (by first | omega | (simp; done) | (simp; omega))))) _ (by omega) (by omega)).mono ?_; rintro e w1 ⟨rfl, hb1⟩; have hs1 := hb1.size)) | (go_at_call 53; (refine (l1In_any _ _ _ _).mono ?_; rintro e w' ⟨rfl, rfl⟩)))
  go_loopw [6] (fun j wr => ∃ k : Nat, j = .int .i64 k ∧ (k : Int) < total l ∧ Hid (timeM l k ≤ t) ∧ Below w.heap.size w wr) (fun j _ => (total l).toNat - (intOf j).toNat)
  case atStart => exact ⟨0, rfl, by omega, Lib.hid hz, (by repeat (first | exact Below.refl _ _ | assumption | refine Below.drew ?_ | refine below_drewN ?_ _ | refine Below.alloc ?_ (by first | omega | (simp; done) | (simp; omega)) _ | refine Below.setCell ?_ (by first | omega | (simp; done) | (simp; omega)) _ | refine Below.trans ?_ (Below.mono (by assumption) (by first | omega | (simp; done) | (simp; omega)))))⟩
  case round =>
    obtain ⟨k, rfl, hk, hlek, hbr⟩ := hrel
    have hsr := hbr.size
    have hle := hlek.out
    have u1 : IntKind.i64.wrap ((k : Int) + 1) = (k : Int) + 1 := IntWalk.i64_in _ (by omega)
    by_cases hn : timeM l ((k : Int) + 1) ≤ t
    · have hkt : (k : Int) + 1 < total l := by
        by_cases e : (k : Int) + 1 = total l
        · rw [e] at hn; omega
        · omega
      have Hn := Lib.hid (show timeM l ((k + 1 : Nat) : Int) ≤ t by exact_mod_cast hn)
      clear hle
      (repeat clear hl1); (repeat clear hl2); (repeat clear hl3); (repeat clear hl4); (repeat clear hk1); (repeat clear hk2); (repeat clear hk3); (repeat clear hk4); (repeat clear hcn); (repeat clear hfn); (repeat clear hln); (repeat clear hz0); (repeat clear hz1); (repeat clear hz2); (repeat clear hs1); (repeat clear hb1)
      go_wp2_with (first | (go_at_call 51; (refine (HT.out _ (by repeat (first | exact Below.refl _ _ | assumption | refine Below.drew ?_ | refine below_drewN ?_ _ | refine Below.alloc ?_ (by first | omega | (simp; done) | (simp; omega)) _ | refine Below.setCell ?_ (by first | omega | (simp; done) | (simp; omega)) _ | refine Below.trans ?_ (Below.mono (by assumption) (by first | omega | (simp; done) | (simp; omega))))) _ (by omega) (by omega)).mono ?_; rintro e w1 ⟨rfl, hb1⟩; have hs1 := hb1.size)))
      go_roundw
      case rel => exact ⟨k + 1, by go_num, by omega, Hn, (by repeat (first | exact Below.refl _ _ | assumption | refine Below.drew ?_ | refine below_drewN ?_ _ | refine Below.alloc ?_ (by first | omega | (simp; done) | (simp; omega)) _ | refine Below.setCell ?_ (by first | omega | (simp; done) | (simp; omega)) _ | refine Below.trans ?_ (Below.mono (by assumption) (by first | omega | (simp; done) | (simp; omega)))))⟩
      case measure => simp [intOf]; omega
    · have hv := cntAt_eq Hm.out hle (by omega) (by omega)
      have HV := Lib.hid hv
      clear hv hle
      (repeat clear hl1); (repeat clear hl2); (repeat clear hl3); (repeat clear hl4); (repeat clear hk1); (repeat clear hk2); (repeat clear hk3); (repeat clear hk4); (repeat clear hcn); (repeat clear hfn); (repeat clear hln); (repeat clear hz0); (repeat clear hz1); (repeat clear hz2); (repeat clear hs1); (repeat clear hb1)
      go_wp2_with (first | (go_at_call 51; (refine (HT.out _ (by repeat (first | exact Below.refl _ _ | assumption | refine Below.drew ?_ | refine below_drewN ?_ _ | refine Below.alloc ?_ (by first | omega | (simp; done) | (simp; omega)) _ | refine Below.setCell ?_ (by first | omega | (simp; done) | (simp; omega)) _ | refine Below.trans ?_ (Below.mono (by assumption) (by first | omega | (simp; done) | (simp; omega))))) _ (by omega) (by omega)).mono ?_; rintro e w1 ⟨rfl, hb1⟩; have hs1 := hb1.size)))
      go_ret2
      exact ⟨by rw [HV.out]; rfl, (by repeat (first | exact Below.refl _ _ | assumption | refine Below.drew ?_ | refine below_drewN ?_ _ | refine Below.alloc ?_ (by first | omega | (simp; done) | (simp; omega)) _ | refine Below.setCell ?_ (by first | omega | (simp; done) | (simp; omega)) _ | refine Below.trans ?_ (Below.mono (by assumption) (by first | omega | (simp; done) | (simp; omega)))))⟩
theorem specCountAt_any (a : Option Addr) (cap : Nat) (l : List (Int × Int)) (hl : l.length ≤ 1048576) {w : World} (ha : PairsAt w a l) (t : Int) :
    Calls Try.prog 25 #[.slice a l.length cap, .int .i64 t] w fun e w' => e = .returned (.tuple #[.int .i64 (guardI (canAt l t) (cntAt l t)), .bool (canAt l t)]) ∧ Below w.heap.size w w' := by
  cases hm : musOk l
  · have e : canAt l t = false := by unfold canAt; rw [hm]; rfl
    rw [e]
    exact specCountAt_bad a cap l hl ha t hm
  · cases hg : canAt l t
    · exact specCountAt_no a cap l hm ha t hg
    · exact specCountAt_yes a cap l hm ha t hg
/-- May times from one count to another be asked? -/
def canLast (l : List (Int × Int)) (c d : Int) : Bool := upTo l c && upTo l d && decide (c ≤ d)
theorem canLast_iff {l : List (Int × Int)} {c d : Int} : canLast l c d = true ↔ upTo l c = true ∧ upTo l d = true ∧ c ≤ d := by
  unfold canLast
  simp [and_assoc]

set_option maxHeartbeats 1000000 in
theorem specLastsFrom_no1 (a : Option Addr) (cap : Nat) (l : List (Int × Int)) (hl : l.length ≤ 1048576) {w : World} (ha : PairsAt w a l) (c d : Int) (h1 : upTo l c = false) :
    Calls Try.prog 27 #[.slice a l.length cap, .int .i64 c, .int .i64 d] w fun e w' => e = .returned (.tuple #[.int .i64 0, .bool false]) ∧ Below w.heap.size w w' := by
  have HG := Lib.hid (fun (W : World) (hb : Below w.heap.size w W) (c : Int) => muUpTo_any a cap l hl (ha.below hb) c)
  skip
  all_goals
    go_enter Try.func27, Try.ntmps27
    go_wp2_with (first | (go_at_call 50; ((with_reducible refine (HG.out _ ?_ c).mono ?_); (focus exact (by repeat (first | exact Below.refl _ _ | assumption | refine Below.drew ?_ | refine below_drewN ?_ _ | refine Below.alloc ?_ (by first | omega | (simp; done) | (simp; omega)) _ | refine Below.setCell ?_ (by first | omega | (simp; done) | (simp; omega)) _ | refine Below.trans ?_ (Below.mono (by assumption) (by first | omega | (simp; done) | (simp; omega)))))); rintro e w1 ⟨rfl, hb1⟩; have hs1 := hb1.size)) | (go_at_call 50; ((with_reducible refine (HG.out _ ?_ d).mono ?_); (focus exact (by repeat (first | exact Below.refl _ _ | assumption | refine Below.drew ?_ | refine below_drewN ?_ _ | refine Below.alloc ?_ (by first | omega | (simp; done) | (simp; omega)) _ | refine Below.setCell ?_ (by first | omega | (simp; done) | (simp; omega)) _ | refine Below.trans ?_ (Below.mono (by assumption) (by first | omega | (simp; done) | (simp; omega)))))); rintro e w1 ⟨rfl, hb1⟩; have hs1 := hb1.size)))
    go_ret2
    exact ⟨rfl, (by repeat (first | exact Below.refl _ _ | assumption | refine Below.drew ?_ | refine below_drewN ?_ _ | refine Below.alloc ?_ (by first | omega | (simp; done) | (simp; omega)) _ | refine Below.setCell ?_ (by first | omega | (simp; done) | (simp; omega)) _ | refine Below.trans ?_ (Below.mono (by assumption) (by first | omega | (simp; done) | (simp; omega)))))⟩

set_option maxHeartbeats 1000000 in
theorem specLastsFrom_no2 (a : Option Addr) (cap : Nat) (l : List (Int × Int)) (hl : l.length ≤ 1048576) {w : World} (ha : PairsAt w a l) (c d : Int) (h1 : upTo l c = true) (h2 : upTo l d = false) :
    Calls Try.prog 27 #[.slice a l.length cap, .int .i64 c, .int .i64 d] w fun e w' => e = .returned (.tuple #[.int .i64 0, .bool false]) ∧ Below w.heap.size w w' := by
  have HG := Lib.hid (fun (W : World) (hb : Below w.heap.size w W) (c : Int) => muUpTo_any a cap l hl (ha.below hb) c)
  skip
  all_goals
    go_enter Try.func27, Try.ntmps27
    go_wp2_with (first | (go_at_call 50; ((with_reducible refine (HG.out _ ?_ c).mono ?_); (focus exact (by repeat (first | exact Below.refl _ _ | assumption | refine Below.drew ?_ | refine below_drewN ?_ _ | refine Below.alloc ?_ (by first | omega | (simp; done) | (simp; omega)) _ | refine Below.setCell ?_ (by first | omega | (simp; done) | (simp; omega)) _ | refine Below.trans ?_ (Below.mono (by assumption) (by first | omega | (simp; done) | (simp; omega)))))); rintro e w1 ⟨rfl, hb1⟩; have hs1 := hb1.size)) | (go_at_call 50; ((with_reducible refine (HG.out _ ?_ d).mono ?_); (focus exact (by repeat (first | exact Below.refl _ _ | assumption | refine Below.drew ?_ | refine below_drewN ?_ _ | refine Below.alloc ?_ (by first | omega | (simp; done) | (simp; omega)) _ | refine Below.setCell ?_ (by first | omega | (simp; done) | (simp; omega)) _ | refine Below.trans ?_ (Below.mono (by assumption) (by first | omega | (simp; done) | (simp; omega)))))); rintro e w1 ⟨rfl, hb1⟩; have hs1 := hb1.size)))
    go_ret2
    exact ⟨rfl, (by repeat (first | exact Below.refl _ _ | assumption | refine Below.drew ?_ | refine below_drewN ?_ _ | refine Below.alloc ?_ (by first | omega | (simp; done) | (simp; omega)) _ | refine Below.setCell ?_ (by first | omega | (simp; done) | (simp; omega)) _ | refine Below.trans ?_ (Below.mono (by assumption) (by first | omega | (simp; done) | (simp; omega)))))⟩

set_option maxHeartbeats 1000000 in
theorem specLastsFrom_no3 (a : Option Addr) (cap : Nat) (l : List (Int × Int)) (hl : l.length ≤ 1048576) {w : World} (ha : PairsAt w a l) (c d : Int) (h1 : upTo l c = true) (h2 : upTo l d = true) (h3 : ¬ c ≤ d) :
    Calls Try.prog 27 #[.slice a l.length cap, .int .i64 c, .int .i64 d] w fun e w' => e = .returned (.tuple #[.int .i64 0, .bool false]) ∧ Below w.heap.size w w' := by
  have HG := Lib.hid (fun (W : World) (hb : Below w.heap.size w W) (c : Int) => muUpTo_any a cap l hl (ha.below hb) c)
  have h4 : d < c := by omega
  all_goals
    go_enter Try.func27, Try.ntmps27
    go_wp2_with (first | (go_at_call 50; ((with_reducible refine (HG.out _ ?_ c).mono ?_); (focus exact (by repeat (first | exact Below.refl _ _ | assumption | refine Below.drew ?_ | refine below_drewN ?_ _ | refine Below.alloc ?_ (by first | omega | (simp; done) | (simp; omega)) _ | refine Below.setCell ?_ (by first | omega | (simp; done) | (simp; omega)) _ | refine Below.trans ?_ (Below.mono (by assumption) (by first | omega | (simp; done) | (simp; omega)))))); rintro e w1 ⟨rfl, hb1⟩; have hs1 := hb1.size)) | (go_at_call 50; ((with_reducible refine (HG.out _ ?_ d).mono ?_); (focus exact (by repeat (first | exact Below.refl _ _ | assumption | refine Below.drew ?_ | refine below_drewN ?_ _ | refine Below.alloc ?_ (by first | omega | (simp; done) | (simp; omega)) _ | refine Below.setCell ?_ (by first | omega | (simp; done) | (simp; omega)) _ | refine Below.trans ?_ (Below.mono (by assumption) (by first | omega | (simp; done) | (simp; omega)))))); rintro e w1 ⟨rfl, hb1⟩; have hs1 := hb1.size)))
    go_ret2
    exact ⟨rfl, (by repeat (first | exact Below.refl _ _ | assumption | refine Below.drew ?_ | refine below_drewN ?_ _ | refine Below.alloc ?_ (by first | omega | (simp; done) | (simp; omega)) _ | refine Below.setCell ?_ (by first | omega | (simp; done) | (simp; omega)) _ | refine Below.trans ?_ (Below.mono (by assumption) (by first | omega | (simp; done) | (simp; omega)))))⟩

set_option maxHeartbeats 1000000 in
theorem specLastsFrom_yes (a : Option Addr) (cap : Nat) (l : List (Int × Int)) (hl : l.length ≤ 1048576) {w : World} (ha : PairsAt w a l) (c d : Int) (h1 : upTo l c = true) (h2 : upTo l d = true) (h3 : c ≤ d) :
    Calls Try.prog 27 #[.slice a l.length cap, .int .i64 c, .int .i64 d] w fun e w' => e = .returned (.tuple #[.int .i64 (timeM l d - timeM l c), .bool true]) ∧ Below w.heap.size w w' := by
  obtain ⟨hm, g0, g1⟩ := upTo_iff.1 h1
  obtain ⟨_, g2, g3⟩ := upTo_iff.1 h2
  obtain ⟨t3, t4⟩ := time_bound hm g0
  obtain ⟨t5, t6⟩ := time_bound hm g2
  have v1 : IntKind.i64.wrap (timeM l d - timeM l c) = timeM l d - timeM l c := IntWalk.i64_in _ (by omega)
  have HG := Lib.hid (fun (W : World) (hb : Below w.heap.size w W) (c : Int) => muUpTo_any a cap l hl (ha.below hb) c)
  have HT := Lib.hid (fun (W : World) (hb : Below w.heap.size w W) (c : Int) (h0 : 0 ≤ c) (h1 : c ≤ total l) => muTime_any a cap l hm (ha.below hb) c h0 h1)
  have h4 : ¬ d < c := by omega
  all_goals
    go_enter Try.func27, Try.ntmps27
    go_wp2_with (first | (go_at_call 50; ((with_reducible refine (HG.out _ ?_ c).mono ?_); (focus exact (by repeat (first | exact Below.refl _ _ | assumption | refine Below.drew ?_ | refine below_drewN ?_ _ | refine Below.alloc ?_ (by first | omega | (simp; done) | (simp; omega)) _ | refine Below.setCell ?_ (by first | omega | (simp; done) | (simp; omega)) _ | refine Below.trans ?_ (Below.mono (by assumption) (by first | omega | (simp; done) | (simp; omega)))))); rintro e w1 ⟨rfl, hb1⟩; have hs1 := hb1.size)) | (go_at_call 50; ((with_reducible refine (HG.out _ ?_ d).mono ?_); (focus exact (by repeat (first | exact Below.refl _ _ | assumption | refine Below.drew ?_ | refine below_drewN ?_ _ | refine Below.alloc ?_ (by first | omega | (simp; done) | (simp; omega)) _ | refine Below.setCell ?_ (by first | omega | (simp; done) | (simp; omega)) _ | refine Below.trans ?_ (Below.mono (by assumption) (by first | omega | (simp; done) | (simp; omega)))))); rintro e w1 ⟨rfl, hb1⟩; have hs1 := hb1.size)) | (go_at_call 51; (refine (HT.out _ (by repeat (first | exact Below.refl _ _ | assumption | refine Below.drew ?_ | refine below_drewN ?_ _ | refine Below.alloc ?_ (by first | omega | (simp; done) | (simp; omega)) _ | refine Below.setCell ?_ (by first | omega | (simp; done) | (simp; omega)) _ | refine Below.trans ?_ (Below.mono (by assumption) (by first | omega | (simp; done) | (simp; omega))))) _ (by omega) (by omega)).mono ?_; rintro e w1 ⟨rfl, hb1⟩; have hs1 := hb1.size)))
    go_ret2
    exact ⟨rfl, (by repeat (first | exact Below.refl _ _ | assumption | refine Below.drew ?_ | refine below_drewN ?_ _ | refine Below.alloc ?_ (by first | omega | (simp; done) | (simp; omega)) _ | refine Below.setCell ?_ (by first | omega | (simp; done) | (simp; omega)) _ | refine Below.trans ?_ (Below.mono (by assumption) (by first | omega | (simp; done) | (simp; omega)))))⟩

theorem specLastsFrom_any (a : Option Addr) (cap : Nat) (l : List (Int × Int)) (hl : l.length ≤ 1048576) {w : World} (ha : PairsAt w a l) (c d : Int) :
    Calls Try.prog 27 #[.slice a l.length cap, .int .i64 c, .int .i64 d] w fun e w' => e = .returned (.tuple #[.int .i64 (guardI (canLast l c d) (timeM l d - timeM l c)), .bool (canLast l c d)]) ∧ Below w.heap.size w w' := by
  cases h1 : upTo l c
  · have e : canLast l c d = false := by unfold canLast; rw [h1]; rfl
    rw [e]
    exact specLastsFrom_no1 a cap l hl ha c d h1
  · cases h2 : upTo l d
    · have e : canLast l c d = false := by unfold canLast; rw [h1, h2]; rfl
      rw [e]
      exact specLastsFrom_no2 a cap l hl ha c d h1 h2
    · by_cases h3 : c ≤ d
      · have e : canLast l c d = true := canLast_iff.2 ⟨h1, h2, h3⟩
        rw [e]
        exact specLastsFrom_yes a cap l hl ha c d h1 h2 h3
      · have e : canLast l c d = false := by unfold canLast; rw [h1, h2, decide_eq_false h3]; rfl
        rw [e]
        exact specLastsFrom_no3 a cap l hl ha c d h1 h2 h3

end Go.Proofs.Ytbpphcdhbbhjpaa
