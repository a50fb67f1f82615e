/- Changed spots, both sides. No conditions but those written in each theorem. -/
import Derived.Test.YtfimjfchdaioeaaChAEq
import Derived.Test.YtfimjfchdaioeaaInts
import Derived.Deep.RegionHeld3
import Derived.Deep.DrawnRows
import Derived.IntWalk
import Derived.StillTailTactics
import Derived.Deep.DeepCutAuto
import Derived.Deep.OwnRows
import Derived.Deep.MidRow
import Derived.Laws.Rows
import Derived.Lib.LazyBuf
import Derived.Laws.AppendOwn
import Derived.Lib.QuietBelow
namespace Go.Proofs.Ytfimjfchdaioeaa
open Go.RowKit
open Go.Sort (grow)


attribute [local go_sem ↓] Go.wp_at_zero Go.wp_at_succ

/-- Two charts with as many performers. -/
def prO (l1 l2 : List (Int × Int)) : Bool := chOk l1 && chOk l2 && decide (l1.length = l2.length)
/-- Do two performers of the same number stand on one spot? -/
def eqAt (l1 l2 : List (Int × Int)) (k : Nat) : Bool := decide (sx l1 k = sx l2 k) && decide (sy l1 k = sy l2 k)
/-- The performers below k who stand on different spots. -/
def chgD (l1 l2 : List (Int × Int)) : Nat → List Int
  | 0 => []
  | k + 1 => if eqAt l1 l2 k then chgD l1 l2 k else chgD l1 l2 k ++ [(k : Int)]
theorem chgD_length (l1 l2 : List (Int × Int)) : ∀ k, (chgD l1 l2 k).length ≤ k
  | 0 => Nat.le_refl _
  | k + 1 => by
    have h := chgD_length l1 l2 k
    unfold chgD
    split
    · omega
    · rw [List.length_append]; simp; omega
theorem chgD_same {l1 l2 : List (Int × Int)} {k : Nat} (h : eqAt l1 l2 k = true) : chgD l1 l2 (k + 1) = chgD l1 l2 k := by show (if _ then _ else _) = _; rw [if_pos h]
theorem chgD_diff {l1 l2 : List (Int × Int)} {k : Nat} (h : eqAt l1 l2 k = false) : chgD l1 l2 (k + 1) = chgD l1 l2 k ++ [(k : Int)] := by show (if _ then _ else _) = _; rw [if_neg (by rw [h]; simp)]
def chgL (l1 l2 : List (Int × Int)) : List Int := if prO l1 l2 then chgD l1 l2 l1.length else []
theorem chgL_length (l1 l2 : List (Int × Int)) : (chgL l1 l2).length ≤ l1.length := by
  unfold chgL
  split
  · exact chgD_length _ _ _
  · simp
theorem prO_parts {l1 l2 : List (Int × Int)} (h : prO l1 l2 = true) : chOk l1 = true ∧ chOk l2 = true ∧ l1.length = l2.length := by
  unfold prO at h
  rw [Bool.and_eq_true, Bool.and_eq_true] at h
  exact ⟨h.1.1, h.1.2, of_decide_eq_true h.2⟩
theorem eqAt_cases (l1 l2 : List (Int × Int)) (k : Nat) : (eqAt l1 l2 k = true ∧ sx l1 k = sx l2 k ∧ sy l1 k = sy l2 k) ∨ (eqAt l1 l2 k = false ∧ ((sx l1 k == sx l2 k) = false ∨ ((sx l1 k == sx l2 k) = true ∧ (sy l1 k == sy l2 k) = false))) := by
  unfold eqAt
  by_cases h1 : sx l1 k = sx l2 k
  · by_cases h2 : sy l1 k = sy l2 k
    · exact .inl ⟨by rw [decide_eq_true h1, decide_eq_true h2]; rfl, h1, h2⟩
    · exact .inr ⟨by rw [decide_eq_false h2, Bool.and_false], .inr ⟨by simpa using h1, by simpa using h2⟩⟩
  · exact .inr ⟨by rw [decide_eq_false h1]; rfl, .inl (by simpa using h1)⟩

set_option maxHeartbeats 1000000 in
theorem chPair_no1 (a1 : Option Addr) (cap1 : Nat) (l1 : List (Int × Int)) (hl1 : l1.length ≤ 1048576) (hc1 : l1.length ≤ cap1) (a2 : Option Addr) (cap2 : Nat) (l2 : List (Int × Int)) (hl2 : l2.length ≤ 1048576) (hc2 : l2.length ≤ cap2) {w : World} (ha : PairsAt w a1 l1) (hb : PairsAt w a2 l2) (h1 : chOk l1 = false) :
    Calls Try.prog 65 #[.slice a1 l1.length cap1, .slice a2 l2.length cap2] w fun e w' => e = .returned (.bool (prO l1 l2)) ∧ Below w.heap.size w w' := by
  have HGA := Lib.hid (fun (W : World) (hb' : Below w.heap.size w W) => chGood_any a1 cap1 l1 hl1 hc1 (ha.below hb'))
  have HGB := Lib.hid (fun (W : World) (hb' : Below w.heap.size w W) => chGood_any a2 cap2 l2 hl2 hc2 (hb.below hb'))
  have E0 : Hid (prO l1 l2 = false) := Lib.hid (by unfold prO; rw [h1]; rfl)
  rw [h1] at HGA
  clear h1
  rw [E0.out]
  go_enter Try.func65, Try.ntmps65
  go_wp2_with (first | (go_at_call 45; ((with_reducible refine (HGA.out _ (by repeat (first | exact Below.refl _ _ | assumption | refine Below.drew ?_ | refine below_drewN ?_ _ | refine Below.alloc ?_ (by first | omega | (simp; done) | (simp; omega)) _ | refine Below.setCell ?_ (by first | omega | (simp; done) | (simp; omega)) _ | refine Below.trans ?_ (Below.mono (by assumption) (by first | omega | (simp; done) | (simp; omega)))))).mono ?_); rintro e w1 ⟨rfl, hb1⟩; have hs1 := hb1.size; (try simp at hs1))) | (go_at_call 45; ((with_reducible refine (HGB.out _ (by repeat (first | exact Below.refl _ _ | assumption | refine Below.drew ?_ | refine below_drewN ?_ _ | refine Below.alloc ?_ (by first | omega | (simp; done) | (simp; omega)) _ | refine Below.setCell ?_ (by first | omega | (simp; done) | (simp; omega)) _ | refine Below.trans ?_ (Below.mono (by assumption) (by first | omega | (simp; done) | (simp; omega)))))).mono ?_); rintro e w1 ⟨rfl, hb1⟩; have hs1 := hb1.size; (try simp at hs1))))
  go_ret
  exact ⟨rfl, (by repeat (first | exact Below.refl _ _ | assumption | refine Below.drew ?_ | refine below_drewN ?_ _ | refine Below.alloc ?_ (by first | omega | (simp; done) | (simp; omega)) _ | refine Below.setCell ?_ (by first | omega | (simp; done) | (simp; omega)) _ | refine Below.trans ?_ (Below.mono (by assumption) (by first | omega | (simp; done) | (simp; omega)))))⟩

set_option maxHeartbeats 1000000 in
theorem chPair_no2 (a1 : Option Addr) (cap1 : Nat) (l1 : List (Int × Int)) (hl1 : l1.length ≤ 1048576) (hc1 : l1.length ≤ cap1) (a2 : Option Addr) (cap2 : Nat) (l2 : List (Int × Int)) (hl2 : l2.length ≤ 1048576) (hc2 : l2.length ≤ cap2) {w : World} (ha : PairsAt w a1 l1) (hb : PairsAt w a2 l2) (h1 : chOk l1 = true) (h2 : chOk l2 = false) :
    Calls Try.prog 65 #[.slice a1 l1.length cap1, .slice a2 l2.length cap2] w fun e w' => e = .returned (.bool (prO l1 l2)) ∧ Below w.heap.size w w' := by
  have HGA := Lib.hid (fun (W : World) (hb' : Below w.heap.size w W) => chGood_any a1 cap1 l1 hl1 hc1 (ha.below hb'))
  have HGB := Lib.hid (fun (W : World) (hb' : Below w.heap.size w W) => chGood_any a2 cap2 l2 hl2 hc2 (hb.below hb'))
  have E0 : Hid (prO l1 l2 = false) := Lib.hid (by unfold prO; rw [h1, h2]; rfl)
  rw [h1] at HGA
  rw [h2] at HGB
  clear h1 h2
  rw [E0.out]
  go_enter Try.func65, Try.ntmps65
  go_wp2_with (first | (go_at_call 45; ((with_reducible refine (HGA.out _ (by repeat (first | exact Below.refl _ _ | assumption | refine Below.drew ?_ | refine below_drewN ?_ _ | refine Below.alloc ?_ (by first | omega | (simp; done) | (simp; omega)) _ | refine Below.setCell ?_ (by first | omega | (simp; done) | (simp; omega)) _ | refine Below.trans ?_ (Below.mono (by assumption) (by first | omega | (simp; done) | (simp; omega)))))).mono ?_); rintro e w1 ⟨rfl, hb1⟩; have hs1 := hb1.size; (try simp at hs1))) | (go_at_call 45; ((with_reducible refine (HGB.out _ (by repeat (first | exact Below.refl _ _ | assumption | refine Below.drew ?_ | refine below_drewN ?_ _ | refine Below.alloc ?_ (by first | omega | (simp; done) | (simp; omega)) _ | refine Below.setCell ?_ (by first | omega | (simp; done) | (simp; omega)) _ | refine Below.trans ?_ (Below.mono (by assumption) (by first | omega | (simp; done) | (simp; omega)))))).mono ?_); rintro e w1 ⟨rfl, hb1⟩; have hs1 := hb1.size; (try simp at hs1))))
  go_ret
  exact ⟨rfl, (by repeat (first | exact Below.refl _ _ | assumption | refine Below.drew ?_ | refine below_drewN ?_ _ | refine Below.alloc ?_ (by first | omega | (simp; done) | (simp; omega)) _ | refine Below.setCell ?_ (by first | omega | (simp; done) | (simp; omega)) _ | refine Below.trans ?_ (Below.mono (by assumption) (by first | omega | (simp; done) | (simp; omega)))))⟩

set_option maxHeartbeats 1000000 in
theorem chPair_no3 (a1 : Option Addr) (cap1 : Nat) (l1 : List (Int × Int)) (hl1 : l1.length ≤ 1048576) (hc1 : l1.length ≤ cap1) (a2 : Option Addr) (cap2 : Nat) (l2 : List (Int × Int)) (hl2 : l2.length ≤ 1048576) (hc2 : l2.length ≤ cap2) {w : World} (ha : PairsAt w a1 l1) (hb : PairsAt w a2 l2) (h1 : chOk l1 = true) (h2 : chOk l2 = true) (h3 : l1.length ≠ l2.length) :
    Calls Try.prog 65 #[.slice a1 l1.length cap1, .slice a2 l2.length cap2] w fun e w' => e = .returned (.bool (prO l1 l2)) ∧ Below w.heap.size w w' := by
  have HGA := Lib.hid (fun (W : World) (hb' : Below w.heap.size w W) => chGood_any a1 cap1 l1 hl1 hc1 (ha.below hb'))
  have HGB := Lib.hid (fun (W : World) (hb' : Below w.heap.size w W) => chGood_any a2 cap2 l2 hl2 hc2 (hb.below hb'))
  have E0 : Hid (prO l1 l2 = false) := Lib.hid (by unfold prO; rw [h1, h2, decide_eq_false h3]; rfl)
  have u1 : ((l1.length : Int) == (l2.length : Int)) = false := by have h4 : ¬ (l1.length : Int) = (l2.length : Int) := fun e => h3 (Int.ofNat.inj e); simpa using h4
  rw [h1] at HGA
  rw [h2] at HGB
  clear h1 h2 h3
  rw [E0.out]
  go_enter Try.func65, Try.ntmps65
  go_wp2_with (first | (go_at_call 45; ((with_reducible refine (HGA.out _ (by repeat (first | exact Below.refl _ _ | assumption | refine Below.drew ?_ | refine below_drewN ?_ _ | refine Below.alloc ?_ (by first | omega | (simp; done) | (simp; omega)) _ | refine Below.setCell ?_ (by first | omega | (simp; done) | (simp; omega)) _ | refine Below.trans ?_ (Below.mono (by assumption) (by first | omega | (simp; done) | (simp; omega)))))).mono ?_); rintro e w1 ⟨rfl, hb1⟩; have hs1 := hb1.size; (try simp at hs1))) | (go_at_call 45; ((with_reducible refine (HGB.out _ (by repeat (first | exact Below.refl _ _ | assumption | refine Below.drew ?_ | refine below_drewN ?_ _ | refine Below.alloc ?_ (by first | omega | (simp; done) | (simp; omega)) _ | refine Below.setCell ?_ (by first | omega | (simp; done) | (simp; omega)) _ | refine Below.trans ?_ (Below.mono (by assumption) (by first | omega | (simp; done) | (simp; omega)))))).mono ?_); rintro e w1 ⟨rfl, hb1⟩; have hs1 := hb1.size; (try simp at hs1))))
  go_ret
  exact ⟨rfl, (by repeat (first | exact Below.refl _ _ | assumption | refine Below.drew ?_ | refine below_drewN ?_ _ | refine Below.alloc ?_ (by first | omega | (simp; done) | (simp; omega)) _ | refine Below.setCell ?_ (by first | omega | (simp; done) | (simp; omega)) _ | refine Below.trans ?_ (Below.mono (by assumption) (by first | omega | (simp; done) | (simp; omega)))))⟩

set_option maxHeartbeats 1000000 in
theorem chPair_yes (a1 : Option Addr) (cap1 : Nat) (l1 : List (Int × Int)) (hl1 : l1.length ≤ 1048576) (hc1 : l1.length ≤ cap1) (a2 : Option Addr) (cap2 : Nat) (l2 : List (Int × Int)) (hl2 : l2.length ≤ 1048576) (hc2 : l2.length ≤ cap2) {w : World} (ha : PairsAt w a1 l1) (hb : PairsAt w a2 l2) (h1 : chOk l1 = true) (h2 : chOk l2 = true) (h3 : l1.length = l2.length) :
    Calls Try.prog 65 #[.slice a1 l1.length cap1, .slice a2 l2.length cap2] w fun e w' => e = .returned (.bool (prO l1 l2)) ∧ Below w.heap.size w w' := by
  have HGA := Lib.hid (fun (W : World) (hb' : Below w.heap.size w W) => chGood_any a1 cap1 l1 hl1 hc1 (ha.below hb'))
  have HGB := Lib.hid (fun (W : World) (hb' : Below w.heap.size w W) => chGood_any a2 cap2 l2 hl2 hc2 (hb.below hb'))
  have E0 : Hid (prO l1 l2 = true) := Lib.hid (by unfold prO; rw [h1, h2, decide_eq_true h3]; rfl)
  have u1 : ((l1.length : Int) == (l2.length : Int)) = true := by rw [h3]; simp
  rw [h1] at HGA
  rw [h2] at HGB
  clear h1 h2 h3
  rw [E0.out]
  go_enter Try.func65, Try.ntmps65
  go_wp2_with (first | (go_at_call 45; ((with_reducible refine (HGA.out _ (by repeat (first | exact Below.refl _ _ | assumption | refine Below.drew ?_ | refine below_drewN ?_ _ | refine Below.alloc ?_ (by first | omega | (simp; done) | (simp; omega)) _ | refine Below.setCell ?_ (by first | omega | (simp; done) | (simp; omega)) _ | refine Below.trans ?_ (Below.mono (by assumption) (by first | omega | (simp; done) | (simp; omega)))))).mono ?_); rintro e w1 ⟨rfl, hb1⟩; have hs1 := hb1.size; (try simp at hs1))) | (go_at_call 45; ((with_reducible refine (HGB.out _ (by repeat (first | exact Below.refl _ _ | assumption | refine Below.drew ?_ | refine below_drewN ?_ _ | refine Below.alloc ?_ (by first | omega | (simp; done) | (simp; omega)) _ | refine Below.setCell ?_ (by first | omega | (simp; done) | (simp; omega)) _ | refine Below.trans ?_ (Below.mono (by assumption) (by first | omega | (simp; done) | (simp; omega)))))).mono ?_); rintro e w1 ⟨rfl, hb1⟩; have hs1 := hb1.size; (try simp at hs1))))
  go_ret
  exact ⟨rfl, (by repeat (first | exact Below.refl _ _ | assumption | refine Below.drew ?_ | refine below_drewN ?_ _ | refine Below.alloc ?_ (by first | omega | (simp; done) | (simp; omega)) _ | refine Below.setCell ?_ (by first | omega | (simp; done) | (simp; omega)) _ | refine Below.trans ?_ (Below.mono (by assumption) (by first | omega | (simp; done) | (simp; omega)))))⟩

theorem chPair_any (a1 : Option Addr) (cap1 : Nat) (l1 : List (Int × Int)) (hl1 : l1.length ≤ 1048576) (hc1 : l1.length ≤ cap1) (a2 : Option Addr) (cap2 : Nat) (l2 : List (Int × Int)) (hl2 : l2.length ≤ 1048576) (hc2 : l2.length ≤ cap2) {w : World} (ha : PairsAt w a1 l1) (hb : PairsAt w a2 l2) :
    Calls Try.prog 65 #[.slice a1 l1.length cap1, .slice a2 l2.length cap2] w fun e w' => e = .returned (.bool (prO l1 l2)) ∧ Below w.heap.size w w' := by
  cases h1 : chOk l1
  · exact chPair_no1 a1 cap1 l1 hl1 hc1 a2 cap2 l2 hl2 hc2 ha hb h1
  · cases h2 : chOk l2
    · exact chPair_no2 a1 cap1 l1 hl1 hc1 a2 cap2 l2 hl2 hc2 ha hb h1 h2
    · by_cases h3 : l1.length = l2.length
      · exact chPair_yes a1 cap1 l1 hl1 hc1 a2 cap2 l2 hl2 hc2 ha hb h1 h2 h3
      · exact chPair_no3 a1 cap1 l1 hl1 hc1 a2 cap2 l2 hl2 hc2 ha hb h1 h2 h3

set_option maxHeartbeats 1000000 in
theorem specChg_no (a1 : Option Addr) (cap1 : Nat) (l1 : List (Int × Int)) (hl1 : l1.length ≤ 1048576) (hc1 : l1.length ≤ cap1) (a2 : Option Addr) (cap2 : Nat) (l2 : List (Int × Int)) (hl2 : l2.length ≤ 1048576) (hc2 : l2.length ≤ cap2) {w : World} (ha : PairsAt w a1 l1) (hb : PairsAt w a2 l2) (hv : prO l1 l2 = false) :
    Calls Try.prog 34 #[.slice a1 l1.length cap1, .slice a2 l2.length cap2] w fun e w' => e = .returned (.tuple #[.slice none 0 0, .bool false]) ∧ Below w.heap.size w w' := by
  have HP := Lib.hid (fun (W : World) (hb' : Below w.heap.size w W) => chPair_any a1 cap1 l1 hl1 hc1 a2 cap2 l2 hl2 hc2 (ha.below hb') (hb.below hb'))
  rw [hv] at HP
  clear hv
  go_enter Try.func34, Try.ntmps34
  go_wp2_with (go_at_call 65; ((with_reducible refine (HP.out _ (by repeat (first | exact Below.refl _ _ | assumption | refine Below.drew ?_ | refine below_drewN ?_ _ | refine Below.alloc ?_ (by first | omega | (simp; done) | (simp; omega)) _ | refine Below.setCell ?_ (by first | omega | (simp; done) | (simp; omega)) _ | refine Below.trans ?_ (Below.mono (by assumption) (by first | omega | (simp; done) | (simp; omega)))))).mono ?_); rintro e w1 ⟨rfl, hb1⟩; have hs1 := hb1.size; (try simp at hs1)))
  go_ret2
  exact ⟨rfl, (by repeat (first | exact Below.refl _ _ | assumption | refine Below.drew ?_ | refine below_drewN ?_ _ | refine Below.alloc ?_ (by first | omega | (simp; done) | (simp; omega)) _ | refine Below.setCell ?_ (by first | omega | (simp; done) | (simp; omega)) _ | refine Below.trans ?_ (Below.mono (by assumption) (by first | omega | (simp; done) | (simp; omega)))))⟩

set_option maxRecDepth 100000 in
set_option maxHeartbeats 2000000 in
theorem specChg_yes (a1 : Option Addr) (cap1 : Nat) (l1 : List (Int × Int)) (hl1 : l1.length ≤ 1048576) (hc1 : l1.length ≤ cap1) (a2 : Option Addr) (cap2 : Nat) (l2 : List (Int × Int)) (hl2 : l2.length ≤ 1048576) (hc2 : l2.length ≤ cap2) {w : World} (ha : PairsAt w a1 l1) (hb : PairsAt w a2 l2) (hv : prO l1 l2 = true) :
    Calls Try.prog 34 #[.slice a1 l1.length cap1, .slice a2 l2.length cap2] w fun e w' => ∃ v, e = .returned (.tuple #[v, .bool true]) ∧ OwnInts w' w.heap.size v (chgD l1 l2 l1.length) ∧ Below w.heap.size w w' := by
  obtain ⟨j0, hi, hz0, hz1, hz2⟩ := info_parts Try.infoInt
  have HI := Lib.hid hi
  have HZ0 := Lib.hid hz0
  have HZ1 := Lib.hid hz1
  have HZ2 := Lib.hid hz2
  clear hi hz0 hz1 hz2
  have HP := Lib.hid (fun (W : World) (hb' : Below w.heap.size w W) => chPair_any a1 cap1 l1 hl1 hc1 a2 cap2 l2 hl2 hc2 (ha.below hb') (hb.below hb'))
  rw [hv] at HP
  obtain ⟨k1, k2, k3⟩ := prO_parts hv
  have k12 := (chOk_parts k1).2.2.2
  have HA := Lib.hid ha
  have HB := Lib.hid hb
  have K3 := Lib.hid k3
  clear hv ha hb k1 k2 k3
  go_enter Try.func34, Try.ntmps34
  go_wp2_with (go_at_call 65; ((with_reducible refine (HP.out _ (by repeat (first | exact Below.refl _ _ | assumption | refine Below.drew ?_ | refine below_drewN ?_ _ | refine Below.alloc ?_ (by first | omega | (simp; done) | (simp; omega)) _ | refine Below.setCell ?_ (by first | omega | (simp; done) | (simp; omega)) _ | refine Below.trans ?_ (Below.mono (by assumption) (by first | omega | (simp; done) | (simp; omega)))))).mono ?_); rintro e w1 ⟨rfl, hb1⟩; have hs1 := hb1.size; (try simp at hs1)))
  have hbw : Below w.heap.size w w1 := (by repeat (first | exact Below.refl _ _ | assumption | refine Below.drew ?_ | refine below_drewN ?_ _ | refine Below.alloc ?_ (by first | omega | (simp; done) | (simp; omega)) _ | refine Below.setCell ?_ (by first | omega | (simp; done) | (simp; omega)) _ | refine Below.trans ?_ (Below.mono (by assumption) (by first | omega | (simp; done) | (simp; omega)))))
  clear hb1 HP
  go_loopw [6, 15] (fun ov i wr => ∃ (k : Nat) (vo : Value), k ≤ l1.length ∧ i = .int .i64 k ∧ ov = vo ∧ Hid (OwnInts wr w.heap.size vo (chgD l1 l2 k)) ∧ Below w.heap.size w wr) (fun _ i _ => l1.length - (intOf i).toNat)
  case atStart => exact ⟨0, _, Nat.zero_le _, rfl, rfl, Lib.hid (World.ownsRow_nil _ _ _ _), hbw⟩
  case round =>
    clear hbw
    obtain ⟨k, vo, hk, rfl, hvo, HOWN, hbr⟩ := hrel
    replace hvo := hvo.symm
    subst hvo
    have hsr := hbr.size
    obtain ⟨wo, rfl⟩ : ∃ wo, wo = wr := ⟨_, rfl⟩
    by_cases hlt : k < l1.length
    · have hlt2 : k < l2.length := by have := K3.out; omega
      have hlen := chgD_length l1 l2 k
      obtain ⟨b1, off1, rfl, e0, e1⟩ := (HA.out.below hbr) k hlt
      obtain ⟨b2, off2, rfl, d0, d1⟩ := (HB.out.below hbr) k hlt2
      have i0 : (0 : Int) ≤ (k : Int) := by omega
      have i1 : (k : Int) < (l2.length : Int) := by omega
      have hcs := eqAt_cases l1 l2 k
      obtain ⟨X1, hX1⟩ : ∃ z, z = sx l1 k := ⟨_, rfl⟩
      obtain ⟨Y1, hY1⟩ : ∃ z, z = sy l1 k := ⟨_, rfl⟩
      obtain ⟨X2, hX2⟩ : ∃ z, z = sx l2 k := ⟨_, rfl⟩
      obtain ⟨Y2, hY2⟩ : ∃ z, z = sy l2 k := ⟨_, rfl⟩
      rw [← hX1] at e0 hcs
      rw [← hY1] at e1 hcs
      rw [← hX2] at d0 hcs
      rw [← hY2] at d1 hcs
      clear hX1 hY1 hX2 hY2
      go_upto_region 7 with fail
      obtain ⟨W1, hW1⟩ : ∃ W, W = wo.alloc (.cells #[.int .i64 X1, .int .i64 Y1] 41) := ⟨_, rfl⟩
      have c0 : W1.cell? ⟨wo.heap.size, 0, none⟩ = some (.int .i64 X1) := by rw [hW1]; go_simp
      have c1 : W1.cell? ⟨wo.heap.size, 1, none⟩ = some (.int .i64 Y1) := by rw [hW1]; go_simp
      replace d0 : W1.cell? ⟨b2, off2 + k * 2, none⟩ = some (.int .i64 X2) := by rw [hW1]; exact (World.cell?_alloc_past _ _ _ (World.block_lt_of_cell? _ _ d0)).trans d0
      replace d1 : W1.cell? ⟨b2, off2 + k * 2 + 1, none⟩ = some (.int .i64 Y2) := by rw [hW1]; exact (World.cell?_alloc_past _ _ _ (World.block_lt_of_cell? _ _ d1)).trans d1
      have hB1 : Below wo.heap.size wo W1 := by rw [hW1]; exact (Below.refl _ _).alloc (Nat.le_refl _) _
      rw [← hW1]
      clear hW1 e0 e1
      have hS1 := hB1.size
      rcases hcs with ⟨hq, rfl, rfl⟩ | ⟨hq, hq2⟩
      · have Hnb := Lib.hid (chgD_same hq)
        clear hq
        have rgc0 := fun d os => cell_regrown c0 d os
        have rgc1 := fun d os => cell_regrown c1 d os
        have rgd0 := fun d os => cell_regrown d0 d os
        have rgd1 := fun d os => cell_regrown d1 d os
        refine wp_region_quiet_below (by kernel_rfl) (by kernel_rfl) ?_
        repeat (quiet_step (first | fail))
        refine wpQuiet_nil ?_
        intro _ hw'
        obtain ⟨⟨dq, osq⟩, hw''⟩ := hw'
        subst hw''
        have hq := below_regrown W1 dq osq
        generalize grow (redrawn W1 dq) osq = W2 at hq ⊢
        have hB2 : Below wo.heap.size wo W2 := hB1.trans (hq.mono hS1)
        clear rgc0 rgc1 rgd0 rgd1 c0 c1 d0 d1 hq hB1
        go_wp2
        go_roundw
        case rel => exact ⟨k + 1, _, by omega, by go_num, rfl, Lib.hid (by rw [Hnb.out]; exact own_below HOWN.out hB2), hbr.trans (hB2.mono hsr)⟩
        case measure => simp [intOf]; omega
      · have Hnb := Lib.hid (chgD_diff hq)
        clear hq
        have hzl : (chgD l1 l2 k).length ≤ 12 := by omega
        rcases hq2 with u1 | ⟨u1, u2⟩
        all_goals
          have rgc0 := fun d os => cell_regrown c0 d os
          have rgc1 := fun d os => cell_regrown c1 d os
          have rgd0 := fun d os => cell_regrown d0 d os
          have rgd1 := fun d os => cell_regrown d1 d os
          refine wp_region_quiet_below (by kernel_rfl) (by kernel_rfl) ?_
          repeat (quiet_step (first | fail))
          refine wpQuiet_nil ?_
          intro _ hw'
          obtain ⟨⟨dq, osq⟩, hw''⟩ := hw'
          subst hw''
          have hq := below_regrown W1 dq osq
          generalize grow (redrawn W1 dq) osq = W2 at hq ⊢
          have hB2 : Below wo.heap.size wo W2 := hB1.trans (hq.mono hS1)
          have hS2 := hB2.size
          clear rgc0 rgc1 rgd0 rgd1 c0 c1 d0 d1 hq hB1
          go_wp2_with (at_builtin; refine wpList_append_own _ rfl _ _ 44 rfl (w.heap.size) 3 j0 (.int .i64 0) 1 8 Try.underlying44 HI.out HZ0.out HZ1.out HZ2.out rfl (by decide) _ _ _ rfl ((own_below HOWN.out hB2).alloc _) ⟨W2.heap.size, 0, none⟩ 1 1 [.int .i64 (k : Int)] rfl rfl ?c1 ?c2 ?c3 ?c4 ?c5 ?_)
          case c1 =>
            intro j u hj
            match j, hj with
            | 0, hj => simp at hj; subst hj; simp [Addr.add]
          case c2 => intro u hu; simp at hu; subst hu; rfl
          case c3 => unfold maxLen; omega
          case c4 => omega
          case c5 => simp; omega
          intro v' w2 hown' hgrow _
          have hst := own_stepI (w := w) (base := w.heap.size) (hbr.trans (hB2.mono hsr)) (Nat.le_trans hsr hB2.size) (by omega) (own_below HOWN.out hB2) hown' hgrow
          rw [← Hnb.out] at hst
          have HST := Lib.hid hst.1
          have hb2 := hst.2.1
          clear hst hown' hgrow
          go_wp2
          go_roundw
          case rel => exact ⟨k + 1, _, by omega, by go_num, rfl, HST, hb2⟩
          case measure => simp [intOf]; omega
    · obtain rfl : k = l1.length := by omega
      go_wp2
      exact bodyPost_ret (v := .tuple #[vo, .bool true]) (by simp [results, Try.results34, go_sem, *]) rfl ⟨_, rfl, HOWN.out, (by repeat (first | exact Below.refl _ _ | assumption | refine Below.drew ?_ | refine below_drewN ?_ _ | refine Below.alloc ?_ (by first | omega | (simp; done) | (simp; omega)) _ | refine Below.setCell ?_ (by first | omega | (simp; done) | (simp; omega)) _ | refine Below.trans ?_ (Below.mono (by assumption) (by first | omega | (simp; done) | (simp; omega)))))⟩

set_option maxHeartbeats 1000000 in
theorem chgI_no1 (a1 : Option Addr) (cap1 : Nat) (l1 : List (Int × Int)) (hl1 : l1.length ≤ 1048576) (a2 : Option Addr) (cap2 : Nat) (l2 : List (Int × Int)) (hl2 : l2.length ≤ 1048576) {w : World} (ha : PairsAt w a1 l1) (hb : PairsAt w a2 l2) (h1 : chOk l1 = false) :
    Calls Try.prog 35 #[.slice a1 l1.length cap1, .slice a2 l2.length cap2] w fun e w' => e = .returned (.tuple #[.slice none 0 0, .bool false]) ∧ Below w.heap.size w w' := by
  have HGA := Lib.hid (fun (W : World) (hb' : Below w.heap.size w W) => isChart_any a1 cap1 l1 hl1 (ha.below hb'))
  have HGB := Lib.hid (fun (W : World) (hb' : Below w.heap.size w W) => isChart_any a2 cap2 l2 hl2 (hb.below hb'))
  have E0 : Hid (prO l1 l2 = false) := Lib.hid (by unfold prO; rw [h1]; rfl)
  rw [h1] at HGA
  clear h1
  clear E0
  go_enter Try.func35, Try.ntmps35
  go_wp2_with (first | (go_at_call 17; ((with_reducible refine (HGA.out _ (by repeat (first | exact Below.refl _ _ | assumption | refine Below.drew ?_ | refine below_drewN ?_ _ | refine Below.alloc ?_ (by first | omega | (simp; done) | (simp; omega)) _ | refine Below.setCell ?_ (by first | omega | (simp; done) | (simp; omega)) _ | refine Below.trans ?_ (Below.mono (by assumption) (by first | omega | (simp; done) | (simp; omega)))))).mono ?_); rintro e w1 ⟨rfl, hb1⟩; have hs1 := hb1.size; (try simp at hs1))) | (go_at_call 17; ((with_reducible refine (HGB.out _ (by repeat (first | exact Below.refl _ _ | assumption | refine Below.drew ?_ | refine below_drewN ?_ _ | refine Below.alloc ?_ (by first | omega | (simp; done) | (simp; omega)) _ | refine Below.setCell ?_ (by first | omega | (simp; done) | (simp; omega)) _ | refine Below.trans ?_ (Below.mono (by assumption) (by first | omega | (simp; done) | (simp; omega)))))).mono ?_); rintro e w1 ⟨rfl, hb1⟩; have hs1 := hb1.size; (try simp at hs1))))
  go_ret2
  exact ⟨rfl, (by repeat (first | exact Below.refl _ _ | assumption | refine Below.drew ?_ | refine below_drewN ?_ _ | refine Below.alloc ?_ (by first | omega | (simp; done) | (simp; omega)) _ | refine Below.setCell ?_ (by first | omega | (simp; done) | (simp; omega)) _ | refine Below.trans ?_ (Below.mono (by assumption) (by first | omega | (simp; done) | (simp; omega)))))⟩

set_option maxHeartbeats 1000000 in
theorem chgI_no2 (a1 : Option Addr) (cap1 : Nat) (l1 : List (Int × Int)) (hl1 : l1.length ≤ 1048576) (a2 : Option Addr) (cap2 : Nat) (l2 : List (Int × Int)) (hl2 : l2.length ≤ 1048576) {w : World} (ha : PairsAt w a1 l1) (hb : PairsAt w a2 l2) (h1 : chOk l1 = true) (h2 : chOk l2 = false) :
    Calls Try.prog 35 #[.slice a1 l1.length cap1, .slice a2 l2.length cap2] w fun e w' => e = .returned (.tuple #[.slice none 0 0, .bool false]) ∧ Below w.heap.size w w' := by
  have HGA := Lib.hid (fun (W : World) (hb' : Below w.heap.size w W) => isChart_any a1 cap1 l1 hl1 (ha.below hb'))
  have HGB := Lib.hid (fun (W : World) (hb' : Below w.heap.size w W) => isChart_any a2 cap2 l2 hl2 (hb.below hb'))
  have E0 : Hid (prO l1 l2 = false) := Lib.hid (by unfold prO; rw [h1, h2]; rfl)
  rw [h1] at HGA
  rw [h2] at HGB
  clear h1 h2
  clear E0
  go_enter Try.func35, Try.ntmps35
  go_wp2_with (first | (go_at_call 17; ((with_reducible refine (HGA.out _ (by repeat (first | exact Below.refl _ _ | assumption | refine Below.drew ?_ | refine below_drewN ?_ _ | refine Below.alloc ?_ (by first | omega | (simp; done) | (simp; omega)) _ | refine Below.setCell ?_ (by first | omega | (simp; done) | (simp; omega)) _ | refine Below.trans ?_ (Below.mono (by assumption) (by first | omega | (simp; done) | (simp; omega)))))).mono ?_); rintro e w1 ⟨rfl, hb1⟩; have hs1 := hb1.size; (try simp at hs1))) | (go_at_call 17; ((with_reducible refine (HGB.out _ (by repeat (first | exact Below.refl _ _ | assumption | refine Below.drew ?_ | refine below_drewN ?_ _ | refine Below.alloc ?_ (by first | omega | (simp; done) | (simp; omega)) _ | refine Below.setCell ?_ (by first | omega | (simp; done) | (simp; omega)) _ | refine Below.trans ?_ (Below.mono (by assumption) (by first | omega | (simp; done) | (simp; omega)))))).mono ?_); rintro e w1 ⟨rfl, hb1⟩; have hs1 := hb1.size; (try simp at hs1))))
  go_ret2
  exact ⟨rfl, (by repeat (first | exact Below.refl _ _ | assumption | refine Below.drew ?_ | refine below_drewN ?_ _ | refine Below.alloc ?_ (by first | omega | (simp; done) | (simp; omega)) _ | refine Below.setCell ?_ (by first | omega | (simp; done) | (simp; omega)) _ | refine Below.trans ?_ (Below.mono (by assumption) (by first | omega | (simp; done) | (simp; omega)))))⟩

set_option maxHeartbeats 1000000 in
theorem chgI_no3 (a1 : Option Addr) (cap1 : Nat) (l1 : List (Int × Int)) (hl1 : l1.length ≤ 1048576) (a2 : Option Addr) (cap2 : Nat) (l2 : List (Int × Int)) (hl2 : l2.length ≤ 1048576) {w : World} (ha : PairsAt w a1 l1) (hb : PairsAt w a2 l2) (h1 : chOk l1 = true) (h2 : chOk l2 = true) (h3 : l1.length ≠ l2.length) :
    Calls Try.prog 35 #[.slice a1 l1.length cap1, .slice a2 l2.length cap2] w fun e w' => e = .returned (.tuple #[.slice none 0 0, .bool false]) ∧ Below w.heap.size w w' := by
  have HGA := Lib.hid (fun (W : World) (hb' : Below w.heap.size w W) => isChart_any a1 cap1 l1 hl1 (ha.below hb'))
  have HGB := Lib.hid (fun (W : World) (hb' : Below w.heap.size w W) => isChart_any a2 cap2 l2 hl2 (hb.below hb'))
  have E0 : Hid (prO l1 l2 = false) := Lib.hid (by unfold prO; rw [h1, h2, decide_eq_false h3]; rfl)
  have u1 : ((l1.length : Int) == (l2.length : Int)) = false := by have h4 : ¬ (l1.length : Int) = (l2.length : Int) := fun e => h3 (Int.ofNat.inj e); simpa using h4
  rw [h1] at HGA
  rw [h2] at HGB
  clear h1 h2 h3
  clear E0
  go_enter Try.func35, Try.ntmps35
  go_wp2_with (first | (go_at_call 17; ((with_reducible refine (HGA.out _ (by repeat (first | exact Below.refl _ _ | assumption | refine Below.drew ?_ | refine below_drewN ?_ _ | refine Below.alloc ?_ (by first | omega | (simp; done) | (simp; omega)) _ | refine Below.setCell ?_ (by first | omega | (simp; done) | (simp; omega)) _ | refine Below.trans ?_ (Below.mono (by assumption) (by first | omega | (simp; done) | (simp; omega)))))).mono ?_); rintro e w1 ⟨rfl, hb1⟩; have hs1 := hb1.size; (try simp at hs1))) | (go_at_call 17; ((with_reducible refine (HGB.out _ (by repeat (first | exact Below.refl _ _ | assumption | refine Below.drew ?_ | refine below_drewN ?_ _ | refine Below.alloc ?_ (by first | omega | (simp; done) | (simp; omega)) _ | refine Below.setCell ?_ (by first | omega | (simp; done) | (simp; omega)) _ | refine Below.trans ?_ (Below.mono (by assumption) (by first | omega | (simp; done) | (simp; omega)))))).mono ?_); rintro e w1 ⟨rfl, hb1⟩; have hs1 := hb1.size; (try simp at hs1))))
  go_ret2
  exact ⟨rfl, (by repeat (first | exact Below.refl _ _ | assumption | refine Below.drew ?_ | refine below_drewN ?_ _ | refine Below.alloc ?_ (by first | omega | (simp; done) | (simp; omega)) _ | refine Below.setCell ?_ (by first | omega | (simp; done) | (simp; omega)) _ | refine Below.trans ?_ (Below.mono (by assumption) (by first | omega | (simp; done) | (simp; omega)))))⟩

set_option maxRecDepth 100000 in
set_option maxHeartbeats 2000000 in
theorem chgI_yes (a1 : Option Addr) (cap1 : Nat) (l1 : List (Int × Int)) (hl1 : l1.length ≤ 1048576) (a2 : Option Addr) (cap2 : Nat) (l2 : List (Int × Int)) (hl2 : l2.length ≤ 1048576) {w : World} (ha : PairsAt w a1 l1) (hb : PairsAt w a2 l2) (h1 : chOk l1 = true) (h2 : chOk l2 = true) (h3 : l1.length = l2.length) :
    Calls Try.prog 35 #[.slice a1 l1.length cap1, .slice a2 l2.length cap2] w fun e w' => ∃ v, e = .returned (.tuple #[v, .bool true]) ∧ OwnInts w' w.heap.size v (chgD l1 l2 l1.length) ∧ Below w.heap.size w w' := by
  obtain ⟨j0, hi, hz0, hz1, hz2⟩ := info_parts Try.infoInt
  have HI := Lib.hid hi
  have HZ0 := Lib.hid hz0
  have HZ1 := Lib.hid hz1
  have HZ2 := Lib.hid hz2
  clear hi hz0 hz1 hz2
  have HGA := Lib.hid (fun (W : World) (hb' : Below w.heap.size w W) => isChart_any a1 cap1 l1 hl1 (ha.below hb'))
  have HGB := Lib.hid (fun (W : World) (hb' : Below w.heap.size w W) => isChart_any a2 cap2 l2 hl2 (hb.below hb'))
  have k12 := (chOk_parts h1).2.2.2
  have k22 := (chOk_parts h2).2.2.2
  have HPA := Lib.hid (fun (W : World) (hb' : Below w.heap.size w W) => placesOf_any a1 cap1 l1 k12 (ha.below hb'))
  have HPB := Lib.hid (fun (W : World) (hb' : Below w.heap.size w W) => placesOf_any a2 cap2 l2 k22 (hb.below hb'))
  have u1 : ((l1.length : Int) == (l2.length : Int)) = true := by rw [h3]; simp
  have k1 := h1
  have k2 := h2
  rw [h1] at HGA
  rw [h2] at HGB
  have K3 := Lib.hid h3
  have HON1 := Lib.hid (chOk_parts k1).1
  have HON2 := Lib.hid (chOk_parts k2).1
  clear h1 h2 h3 ha hb k1 k2
  go_enter Try.func35, Try.ntmps35
  go_upto_region 3 with (first | (go_at_call 17; ((with_reducible refine (HGA.out _ (by repeat (first | exact Below.refl _ _ | assumption | refine Below.drew ?_ | refine below_drewN ?_ _ | refine Below.alloc ?_ (by first | omega | (simp; done) | (simp; omega)) _ | refine Below.setCell ?_ (by first | omega | (simp; done) | (simp; omega)) _ | refine Below.trans ?_ (Below.mono (by assumption) (by first | omega | (simp; done) | (simp; omega)))))).mono ?_); rintro e w1 ⟨rfl, hb1⟩; have hs1 := hb1.size; (try simp at hs1))) | (go_at_call 17; ((with_reducible refine (HGB.out _ (by repeat (first | exact Below.refl _ _ | assumption | refine Below.drew ?_ | refine below_drewN ?_ _ | refine Below.alloc ?_ (by first | omega | (simp; done) | (simp; omega)) _ | refine Below.setCell ?_ (by first | omega | (simp; done) | (simp; omega)) _ | refine Below.trans ?_ (Below.mono (by assumption) (by first | omega | (simp; done) | (simp; omega)))))).mono ?_); rintro e w1 ⟨rfl, hb1⟩; have hs1 := hb1.size; (try simp at hs1))))
  go_upto_region 4 with (first | (refine arr_store rfl (.tmp 6) (.tmp 26) rfl wb.heap.size rfl zA (plA l1) rfl ((arr_new wb zA).below ((Below.refl _ _).alloc (Nat.le_refl _) _)) rfl (plA_arr l1) ?_; intro W3 hA3 hg3) | (refine arr_store rfl (.tmp 7) (.tmp 28) rfl (wb.heap.size + 1) rfl zA (plA l2) rfl ((show ArrAt _ (wb.heap.size + 1) zA from by have h := arr_new (wb.alloc (.cells zA 72)) zA; rw [World.size_alloc] at h; exact h).other hg3 (by simp)) rfl (plA_arr l2) ?_; intro W4 hA4 hg4) | (go_at_call 66; ((with_reducible refine (HPA.out _ (by repeat (first | exact Below.refl _ _ | assumption | refine Below.drew ?_ | refine below_drewN ?_ _ | refine Below.alloc ?_ (by first | omega | (simp; done) | (simp; omega)) _ | refine Below.setCell ?_ (by first | omega | (simp; done) | (simp; omega)) _ | refine Below.trans ?_ (Below.mono (by assumption) (by first | omega | (simp; done) | (simp; omega)))))).mono ?_); rintro e wa ⟨rfl, hba⟩; have hsa := hba.size; (try simp at hsa))) | (go_at_call 66; ((with_reducible refine (HPB.out _ (by repeat (first | exact Below.refl _ _ | assumption | refine Below.drew ?_ | refine below_drewN ?_ _ | refine Below.alloc ?_ (by first | omega | (simp; done) | (simp; omega)) _ | refine Below.setCell ?_ (by first | omega | (simp; done) | (simp; omega)) _ | refine Below.trans ?_ (Below.mono (by assumption) (by first | omega | (simp; done) | (simp; omega)))))).mono ?_); rintro e wb ⟨rfl, hbb⟩; have hsb := hbb.size; (try simp at hsb))))
  have hB4 : Below w.heap.size w W4 := gb_below (gb_below ((by repeat (first | exact Below.refl _ _ | assumption | refine Below.drew ?_ | refine below_drewN ?_ _ | refine Below.alloc ?_ (by first | omega | (simp; done) | (simp; omega)) _ | refine Below.setCell ?_ (by first | omega | (simp; done) | (simp; omega)) _ | refine Below.trans ?_ (Below.mono (by assumption) (by first | omega | (simp; done) | (simp; omega))))) : Below w.heap.size w ((wb.alloc (.cells zA 72)).alloc (.cells zA 72))) hg3 (by first | omega | (simp; done) | (simp; omega))) hg4 (by first | omega | (simp; done) | (simp; omega))
  have hPP := hA3.other hg4 (by simp)
  have hz4 : wb.heap.size + 1 < W4.heap.size := hA4.lt
  have hwb : w.heap.size ≤ wb.heap.size := (by first | omega | (simp; done) | (simp; omega))
  obtain ⟨P, hP⟩ : ∃ z, z = wb.heap.size := ⟨_, rfl⟩
  rw [← hP] at hPP hA4 hz4 hwb
  have HPQ0 := Lib.hid (And.intro hPP hA4)
  clear hba hbb hg3 hg4 hA3 hPP hA4 HPA HPB HGA HGB
  rw [← hP]
  clear hP
  go_wp2
  go_loopw [8, 31] (fun ov i wr => ∃ (k : Nat) (vo : Value), k ≤ l1.length ∧ i = .int .i64 k ∧ ov = vo ∧ Hid (OwnInts wr W4.heap.size vo (chgD l1 l2 k)) ∧ Hid (ArrAt wr P (plA l1) ∧ ArrAt wr (P + 1) (plA l2)) ∧ Below w.heap.size w wr ∧ W4.heap.size ≤ wr.heap.size) (fun _ i _ => l1.length - (intOf i).toNat)
  case atStart => exact ⟨0, _, Nat.zero_le _, rfl, rfl, Lib.hid (World.ownsRow_nil _ _ _ _), HPQ0, hB4, Nat.le_refl _⟩
  case round =>
    clear hB4 HPQ0
    obtain ⟨k, vo, hk, rfl, hvo, HOWN, HPQ, hbr, hwr⟩ := hrel
    replace hvo := hvo.symm
    subst hvo
    have hsr := hbr.size
    obtain ⟨wo, rfl⟩ : ∃ wo, wo = wr := ⟨_, rfl⟩
    by_cases hlt : k < l1.length
    · have hlt2 : k < l2.length := by have := K3.out; omega
      have hlen := chgD_length l1 l2 k
      have e0 := HPQ.out.1.cell (plA_at hlt k12).1
      have e1 := HPQ.out.1.cell (plA_at hlt k12).2
      have d0 := HPQ.out.2.cell (plA_at hlt2 k22).1
      have d1 := HPQ.out.2.cell (plA_at hlt2 k22).2
      have i0 : (0 : Int) ≤ (k : Int) := by omega
      have i1 : (k : Int) < 12 := by omega
      have i2 : k < 12 := by omega
      have hcs := eqAt_cases l1 l2 k
      obtain ⟨X1, hX1⟩ : ∃ z, z = sx l1 k := ⟨_, rfl⟩
      obtain ⟨Y1, hY1⟩ : ∃ z, z = sy l1 k := ⟨_, rfl⟩
      obtain ⟨X2, hX2⟩ : ∃ z, z = sx l2 k := ⟨_, rfl⟩
      obtain ⟨Y2, hY2⟩ : ∃ z, z = sy l2 k := ⟨_, rfl⟩
      rw [← hX1] at e0 hcs
      rw [← hY1] at e1 hcs
      rw [← hX2] at d0 hcs
      rw [← hY2] at d1 hcs
      obtain ⟨wf1, wf2⟩ := wf_on (allOn_at HON1.out k hlt)
      obtain ⟨wf3, wf4⟩ := wf_on (allOn_at HON2.out k hlt2)
      rw [← hX1] at wf1
      rw [← hY1] at wf2
      rw [← hX2] at wf3
      rw [← hY2] at wf4
      have HEQ := fun W => eqPlace wf1 wf2 wf3 wf4 W
      have heg : Try.prog.eqGuardType Try.prog.depth 71 = false := by kernel_rfl
      clear hX1 hY1 hX2 hY2 wf1 wf2 wf3 wf4
      go_upto_region 8 with fail
      rcases hcs with ⟨hq, rfl, rfl⟩ | ⟨hq, hq2⟩
      · have Hnb := Lib.hid (chgD_same hq)
        simp only [decide_true, Bool.and_self] at HEQ
        clear hq
        have rge0 := fun d os => cell_regrown e0 d os
        have rge1 := fun d os => cell_regrown e1 d os
        have rgd0 := fun d os => cell_regrown d0 d os
        have rgd1 := fun d os => cell_regrown d1 d os
        refine wp_region_quiet_below (by kernel_rfl) (by kernel_rfl) ?_
        repeat (quiet_step (first | fail))
        refine wpQuiet_nil ?_
        intro _ hw'
        obtain ⟨⟨dq, osq⟩, hw''⟩ := hw'
        subst hw''
        have hq := below_regrown wo dq osq
        generalize grow (redrawn wo dq) osq = W2 at hq ⊢
        have hB2 : Below wo.heap.size wo W2 := hq
        have hS2 := hB2.size
        clear rge0 rge1 rgd0 rgd1 e0 e1 d0 d1 hq
        go_wp2
        go_roundw
        case rel => exact ⟨k + 1, _, by omega, by go_num, rfl, Lib.hid (by rw [Hnb.out]; exact own_below HOWN.out hB2), Lib.hid ⟨HPQ.out.1.below hB2, HPQ.out.2.below hB2⟩, hbr.trans (hB2.mono hsr), by omega⟩
        case measure => simp [intOf]; omega
      · have Hnb := Lib.hid (chgD_diff hq)
        clear hq
        have hzl : (chgD l1 l2 k).length ≤ 12 := by omega
        rcases hq2 with u1 | ⟨u1, u2⟩
        case' inl => rw [show decide (X1 = X2) = false by simpa using u1, Bool.false_and] at HEQ
        case' inr => rw [show decide (Y1 = Y2) = false by simpa using u2, Bool.and_false] at HEQ
        all_goals
          have rge0 := fun d os => cell_regrown e0 d os
          have rge1 := fun d os => cell_regrown e1 d os
          have rgd0 := fun d os => cell_regrown d0 d os
          have rgd1 := fun d os => cell_regrown d1 d os
          refine wp_region_quiet_below (by kernel_rfl) (by kernel_rfl) ?_
          repeat (quiet_step (first | fail))
          refine wpQuiet_nil ?_
          intro _ hw'
          obtain ⟨⟨dq, osq⟩, hw''⟩ := hw'
          subst hw''
          have hq := below_regrown wo dq osq
          generalize grow (redrawn wo dq) osq = W2 at hq ⊢
          have hB2 : Below wo.heap.size wo W2 := hq
          have hS2 := hB2.size
          clear rge0 rge1 rgd0 rgd1 e0 e1 d0 d1 hq
          go_wp2_with (at_builtin; refine wpList_append_own _ rfl _ _ 44 rfl (W4.heap.size) 3 j0 (.int .i64 0) 1 8 Try.underlying44 HI.out HZ0.out HZ1.out HZ2.out rfl (by decide) _ _ _ rfl ((own_below HOWN.out hB2).alloc _) ⟨W2.heap.size, 0, none⟩ 1 1 [.int .i64 (k : Int)] rfl rfl ?c1 ?c2 ?c3 ?c4 ?c5 ?_)
          case c1 =>
            intro j u hj
            match j, hj with
            | 0, hj => simp at hj; subst hj; simp [Addr.add]
          case c2 => intro u hu; simp at hu; subst hu; rfl
          case c3 => unfold maxLen; omega
          case c4 => omega
          case c5 => simp; omega
          intro v' w2 hown' hgrow _
          have hne : ∀ b, b < W4.heap.size → some b ≠ vo.ownBlock := fun b hb e => by have := World.ownsRow.lt HOWN.out b e.symm; omega
          have hst := own_stepI (w := w) (base := w.heap.size) (hbr.trans (hB2.mono hsr)) (Nat.le_trans hwr hS2) (by omega) (own_below HOWN.out hB2) hown' hgrow
          rw [← Hnb.out] at hst
          have HST := Lib.hid hst.1
          have hb2 := hst.2.1
          have hz9 := hst.2.2.2
          have HPQ2 := Lib.hid (And.intro ((((HPQ.out.1.below hB2).below ((Below.refl _ W2).alloc (Nat.le_refl _) _))).other hgrow (hne P (by omega))) ((((HPQ.out.2.below hB2).below ((Below.refl _ W2).alloc (Nat.le_refl _) _))).other hgrow (hne (P + 1) (by omega))))
          clear hst hown' hgrow hne
          go_wp2
          go_roundw
          case rel => exact ⟨k + 1, _, by omega, by go_num, rfl, HST, HPQ2, hb2, by omega⟩
          case measure => simp [intOf]; omega
    · obtain rfl : k = l1.length := by omega
      go_wp2
      exact bodyPost_ret (v := .tuple #[vo, .bool true]) (by simp [results, Try.results35, go_sem, *]) rfl ⟨_, rfl, own_mono HOWN.out (by first | omega | (simp; done) | (simp; omega)), (by repeat (first | exact Below.refl _ _ | assumption | refine Below.drew ?_ | refine below_drewN ?_ _ | refine Below.alloc ?_ (by first | omega | (simp; done) | (simp; omega)) _ | refine Below.setCell ?_ (by first | omega | (simp; done) | (simp; omega)) _ | refine Below.trans ?_ (Below.mono (by assumption) (by first | omega | (simp; done) | (simp; omega)))))⟩

theorem specChg_any (a1 : Option Addr) (cap1 : Nat) (l1 : List (Int × Int)) (hl1 : l1.length ≤ 1048576) (hc1 : l1.length ≤ cap1) (a2 : Option Addr) (cap2 : Nat) (l2 : List (Int × Int)) (hl2 : l2.length ≤ 1048576) (hc2 : l2.length ≤ cap2) {w : World} (ha : PairsAt w a1 l1) (hb : PairsAt w a2 l2) :
    Calls Try.prog 34 #[.slice a1 l1.length cap1, .slice a2 l2.length cap2] w fun e w' => ∃ v, e = .returned (.tuple #[v, .bool (prO l1 l2)]) ∧ OwnInts w' w.heap.size v (chgL l1 l2) ∧ Below w.heap.size w w' := by
  have no : prO l1 l2 = false → Calls Try.prog 34 #[.slice a1 l1.length cap1, .slice a2 l2.length cap2] w (fun e w' => e = .returned (.tuple #[.slice none 0 0, .bool false]) ∧ Below w.heap.size w w') → Calls Try.prog 34 #[.slice a1 l1.length cap1, .slice a2 l2.length cap2] w fun e w' => ∃ v, e = .returned (.tuple #[v, .bool (prO l1 l2)]) ∧ OwnInts w' w.heap.size v (chgL l1 l2) ∧ Below w.heap.size w w' := fun e1 h => by
    have e2 : chgL l1 l2 = [] := by unfold chgL; rw [if_neg (by rw [e1]; simp)]
    rw [e1, e2]
    exact h.mono fun e w' ⟨he, hb⟩ => ⟨_, he, World.ownsRow_nil _ _ _ _, hb⟩
  cases hv : prO l1 l2
  · rw [← hv]; exact no hv (specChg_no a1 cap1 l1 hl1 hc1 a2 cap2 l2 hl2 hc2 ha hb hv)
  · have e2 : chgL l1 l2 = chgD l1 l2 l1.length := by unfold chgL; rw [if_pos hv]
    rw [e2]
    exact specChg_yes a1 cap1 l1 hl1 hc1 a2 cap2 l2 hl2 hc2 ha hb hv

theorem chgI_any (a1 : Option Addr) (cap1 : Nat) (l1 : List (Int × Int)) (hl1 : l1.length ≤ 1048576) (a2 : Option Addr) (cap2 : Nat) (l2 : List (Int × Int)) (hl2 : l2.length ≤ 1048576) {w : World} (ha : PairsAt w a1 l1) (hb : PairsAt w a2 l2) :
    Calls Try.prog 35 #[.slice a1 l1.length cap1, .slice a2 l2.length cap2] w fun e w' => ∃ v, e = .returned (.tuple #[v, .bool (prO l1 l2)]) ∧ OwnInts w' w.heap.size v (chgL l1 l2) ∧ Below w.heap.size w w' := by
  have no : prO l1 l2 = false → Calls Try.prog 35 #[.slice a1 l1.length cap1, .slice a2 l2.length cap2] w (fun e w' => e = .returned (.tuple #[.slice none 0 0, .bool false]) ∧ Below w.heap.size w w') → Calls Try.prog 35 #[.slice a1 l1.length cap1, .slice a2 l2.length cap2] w fun e w' => ∃ v, e = .returned (.tuple #[v, .bool (prO l1 l2)]) ∧ OwnInts w' w.heap.size v (chgL l1 l2) ∧ Below w.heap.size w w' := fun e1 h => by
    have e2 : chgL l1 l2 = [] := by unfold chgL; rw [if_neg (by rw [e1]; simp)]
    rw [e1, e2]
    exact h.mono fun e w' ⟨he, hb⟩ => ⟨_, he, World.ownsRow_nil _ _ _ _, hb⟩
  cases h1 : chOk l1
  · exact no (by unfold prO; rw [h1]; rfl) (chgI_no1 a1 cap1 l1 hl1 a2 cap2 l2 hl2 ha hb h1)
  · cases h2 : chOk l2
    · exact no (by unfold prO; rw [h1, h2]; rfl) (chgI_no2 a1 cap1 l1 hl1 a2 cap2 l2 hl2 ha hb h1 h2)
    · by_cases h3 : l1.length = l2.length
      · have hv : prO l1 l2 = true := by unfold prO; rw [h1, h2, decide_eq_true h3]; rfl
        have e2 : chgL l1 l2 = chgD l1 l2 l1.length := by unfold chgL; rw [if_pos hv]
        rw [e2, hv]
        exact chgI_yes a1 cap1 l1 hl1 a2 cap2 l2 hl2 ha hb h1 h2 h3
      · exact no (by unfold prO; rw [h1, h2, decide_eq_false h3]; rfl) (chgI_no3 a1 cap1 l1 hl1 a2 cap2 l2 hl2 ha hb h1 h2 h3)

end Go.Proofs.Ytfimjfchdaioeaa
