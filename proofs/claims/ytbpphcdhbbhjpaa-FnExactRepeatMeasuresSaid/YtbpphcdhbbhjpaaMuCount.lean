/- Counts and times of music, as the other side reckons them: what each call does. No conditions but those written in each theorem. -/
import Derived.Test.YtbpphcdhbbhjpaaMuSpec
import Derived.Deep.RegionHeld3
import Derived.Deep.DrawnRows
import Derived.IntWalk
namespace Go.Proofs.Ytbpphcdhbbhjpaa
open Go.RowKit


attribute [local go_sem ↓] Go.wp_at_zero Go.wp_at_succ

/-- Is there such a count? -/
def hasC (l : List (Int × Int)) (c : Int) : Bool := musOk l && inB 0 c (total l - 1)
/-- Is it a count, or the end? -/
def upTo (l : List (Int × Int)) (c : Int) : Bool := musOk l && inB 0 c (total l)
theorem hasC_iff {l : List (Int × Int)} {c : Int} : hasC l c = true ↔ musOk l = true ∧ 0 ≤ c ∧ c < total l := by
  unfold hasC
  rw [Bool.and_eq_true, inB_iff]
  constructor <;> (intro h; refine ⟨h.1, ?_, ?_⟩ <;> omega)
theorem upTo_iff {l : List (Int × Int)} {c : Int} : upTo l c = true ↔ musOk l = true ∧ 0 ≤ c ∧ c ≤ total l := by
  unfold upTo
  rw [Bool.and_eq_true, inB_iff]
theorem total_bound {l : List (Int × Int)} (h : musOk l = true) : 1 ≤ total l ∧ total l ≤ 480 := by
  have h1 := cn_bound h l.length (Nat.le_refl _)
  have h2 := musOk_len h
  unfold total
  omega
theorem atM_lt {l : List (Int × Int)} (h : musOk l = true) {c : Int} (h0 : 0 ≤ c) (h1 : c < total l) : atM l c < l.length ∧ cn l (atM l c) ≤ c ∧ c < cn l (atM l c + 1) := by
  obtain ⟨i, hi, h2, h3⟩ := at_exists h0 l.length h1
  have e : atM l c = i := idx_eq h h2 h3 (by omega) (Nat.le_refl _)
  rw [e]
  exact ⟨hi, h2, h3⟩

set_option maxHeartbeats 1000000 in
theorem muHas_any_no (a : Option Addr) (cap : Nat) (l : List (Int × Int)) (hl : l.length ≤ 1048576) {w : World} (ha : PairsAt w a l) (c : Int) (hg : musOk l = false) :
    Calls Try.prog 47 #[.slice a l.length cap, .int .i64 c] w fun e w' => e = .returned (.bool false) ∧ Below w.heap.size w w' := by
  have HG := Lib.hid (fun (W : World) (hb : Below w.heap.size w W) => muGood_any a cap l hl (ha.below hb))
  skip
  all_goals
    go_enter Try.func47, Try.ntmps47
    go_wp2_with (first | (go_at_call 41; (refine (HG.out _ (by repeat (first | exact Below.refl _ _ | assumption | refine Below.drew ?_ | refine below_drewN ?_ _ | refine Below.alloc ?_ (by first | omega | (simp; done) | (simp; omega)) _ | refine Below.setCell ?_ (by first | omega | (simp; done) | (simp; omega)) _ | refine Below.trans ?_ (Below.mono (by assumption) (by first | omega | (simp; done) | (simp; omega)))))).mono ?_; rintro e w1 ⟨rfl, hb1⟩; have hs1 := hb1.size)))
    go_ret
    exact ⟨rfl, (by repeat (first | exact Below.refl _ _ | assumption | refine Below.drew ?_ | refine below_drewN ?_ _ | refine Below.alloc ?_ (by first | omega | (simp; done) | (simp; omega)) _ | refine Below.setCell ?_ (by first | omega | (simp; done) | (simp; omega)) _ | refine Below.trans ?_ (Below.mono (by assumption) (by first | omega | (simp; done) | (simp; omega)))))⟩

set_option maxHeartbeats 1000000 in
theorem muHas_any_yes (a : Option Addr) (cap : Nat) (l : List (Int × Int)) (hm : musOk l = true) {w : World} (ha : PairsAt w a l) (c : Int) :
    Calls Try.prog 47 #[.slice a l.length cap, .int .i64 c] w fun e w' => e = .returned (.bool (inB 0 c (total l - 1))) ∧ Below w.heap.size w w' := by
  have hl : l.length ≤ 1048576 := by have := (musOk_len hm).2; omega
  obtain ⟨b1, b2⟩ := total_bound hm
  have v1 : IntKind.i64.wrap (total l - 1) = total l - 1 := IntWalk.i64_in _ (by omega)
  have HG := Lib.hid (fun (W : World) (hb : Below w.heap.size w W) => muGood_any a cap l hl (ha.below hb))
  have HC := Lib.hid (fun (W : World) (hb : Below w.heap.size w W) => muCounts_any a cap l hm (ha.below hb))
  skip
  all_goals
    go_enter Try.func47, Try.ntmps47
    go_wp2_with (first | (go_at_call 41; (refine (HG.out _ (by repeat (first | exact Below.refl _ _ | assumption | refine Below.drew ?_ | refine below_drewN ?_ _ | refine Below.alloc ?_ (by first | omega | (simp; done) | (simp; omega)) _ | refine Below.setCell ?_ (by first | omega | (simp; done) | (simp; omega)) _ | refine Below.trans ?_ (Below.mono (by assumption) (by first | omega | (simp; done) | (simp; omega)))))).mono ?_; rintro e w1 ⟨rfl, hb1⟩; have hs1 := hb1.size)) | (go_at_call 45; (refine (HC.out _ (by repeat (first | exact Below.refl _ _ | assumption | refine Below.drew ?_ | refine below_drewN ?_ _ | refine Below.alloc ?_ (by first | omega | (simp; done) | (simp; omega)) _ | refine Below.setCell ?_ (by first | omega | (simp; done) | (simp; omega)) _ | refine Below.trans ?_ (Below.mono (by assumption) (by first | omega | (simp; done) | (simp; omega)))))).mono ?_; rintro e w1 ⟨rfl, hb1⟩; have hs1 := hb1.size)) | (go_at_call 53; (refine (l1In_any _ _ _ _).mono ?_; rintro e w' ⟨rfl, rfl⟩)))
    go_ret
    exact ⟨rfl, (by repeat (first | exact Below.refl _ _ | assumption | refine Below.drew ?_ | refine below_drewN ?_ _ | refine Below.alloc ?_ (by first | omega | (simp; done) | (simp; omega)) _ | refine Below.setCell ?_ (by first | omega | (simp; done) | (simp; omega)) _ | refine Below.trans ?_ (Below.mono (by assumption) (by first | omega | (simp; done) | (simp; omega)))))⟩

theorem muHas_any (a : Option Addr) (cap : Nat) (l : List (Int × Int)) (hl : l.length ≤ 1048576) {w : World} (ha : PairsAt w a l) (c : Int) :
    Calls Try.prog 47 #[.slice a l.length cap, .int .i64 c] w fun e w' => e = .returned (.bool (hasC l c)) ∧ Below w.heap.size w w' := by
  cases hm : musOk l
  · have e : hasC l c = false := by unfold hasC; rw [hm]; rfl
    rw [e]
    exact muHas_any_no a cap l hl ha c hm
  · have e : hasC l c = inB 0 c (total l - 1) := by unfold hasC; rw [hm]; rfl
    rw [e]
    exact muHas_any_yes a cap l hm ha c

set_option maxHeartbeats 1000000 in
theorem muUpTo_any_no (a : Option Addr) (cap : Nat) (l : List (Int × Int)) (hl : l.length ≤ 1048576) {w : World} (ha : PairsAt w a l) (c : Int) (hg : musOk l = false) :
    Calls Try.prog 50 #[.slice a l.length cap, .int .i64 c] w fun e w' => e = .returned (.bool false) ∧ Below w.heap.size w w' := by
  have HG := Lib.hid (fun (W : World) (hb : Below w.heap.size w W) => muGood_any a cap l hl (ha.below hb))
  skip
  all_goals
    go_enter Try.func50, Try.ntmps50
    go_wp2_with (first | (go_at_call 41; (refine (HG.out _ (by repeat (first | exact Below.refl _ _ | assumption | refine Below.drew ?_ | refine below_drewN ?_ _ | refine Below.alloc ?_ (by first | omega | (simp; done) | (simp; omega)) _ | refine Below.setCell ?_ (by first | omega | (simp; done) | (simp; omega)) _ | refine Below.trans ?_ (Below.mono (by assumption) (by first | omega | (simp; done) | (simp; omega)))))).mono ?_; rintro e w1 ⟨rfl, hb1⟩; have hs1 := hb1.size)))
    go_ret
    exact ⟨rfl, (by repeat (first | exact Below.refl _ _ | assumption | refine Below.drew ?_ | refine below_drewN ?_ _ | refine Below.alloc ?_ (by first | omega | (simp; done) | (simp; omega)) _ | refine Below.setCell ?_ (by first | omega | (simp; done) | (simp; omega)) _ | refine Below.trans ?_ (Below.mono (by assumption) (by first | omega | (simp; done) | (simp; omega)))))⟩

set_option maxHeartbeats 1000000 in
theorem muUpTo_any_yes (a : Option Addr) (cap : Nat) (l : List (Int × Int)) (hm : musOk l = true) {w : World} (ha : PairsAt w a l) (c : Int) :
    Calls Try.prog 50 #[.slice a l.length cap, .int .i64 c] w fun e w' => e = .returned (.bool (inB 0 c (total l))) ∧ Below w.heap.size w w' := by
  have hl : l.length ≤ 1048576 := by have := (musOk_len hm).2; omega
  obtain ⟨b1, b2⟩ := total_bound hm
  have HG := Lib.hid (fun (W : World) (hb : Below w.heap.size w W) => muGood_any a cap l hl (ha.below hb))
  have HC := Lib.hid (fun (W : World) (hb : Below w.heap.size w W) => muCounts_any a cap l hm (ha.below hb))
  skip
  all_goals
    go_enter Try.func50, Try.ntmps50
    go_wp2_with (first | (go_at_call 41; (refine (HG.out _ (by repeat (first | exact Below.refl _ _ | assumption | refine Below.drew ?_ | refine below_drewN ?_ _ | refine Below.alloc ?_ (by first | omega | (simp; done) | (simp; omega)) _ | refine Below.setCell ?_ (by first | omega | (simp; done) | (simp; omega)) _ | refine Below.trans ?_ (Below.mono (by assumption) (by first | omega | (simp; done) | (simp; omega)))))).mono ?_; rintro e w1 ⟨rfl, hb1⟩; have hs1 := hb1.size)) | (go_at_call 45; (refine (HC.out _ (by repeat (first | exact Below.refl _ _ | assumption | refine Below.drew ?_ | refine below_drewN ?_ _ | refine Below.alloc ?_ (by first | omega | (simp; done) | (simp; omega)) _ | refine Below.setCell ?_ (by first | omega | (simp; done) | (simp; omega)) _ | refine Below.trans ?_ (Below.mono (by assumption) (by first | omega | (simp; done) | (simp; omega)))))).mono ?_; rintro e w1 ⟨rfl, hb1⟩; have hs1 := hb1.size)) | (go_at_call 53; (refine (l1In_any _ _ _ _).mono ?_; rintro e w' ⟨rfl, rfl⟩)))
    go_ret
    exact ⟨rfl, (by repeat (first | exact Below.refl _ _ | assumption | refine Below.drew ?_ | refine below_drewN ?_ _ | refine Below.alloc ?_ (by first | omega | (simp; done) | (simp; omega)) _ | refine Below.setCell ?_ (by first | omega | (simp; done) | (simp; omega)) _ | refine Below.trans ?_ (Below.mono (by assumption) (by first | omega | (simp; done) | (simp; omega)))))⟩

theorem muUpTo_any (a : Option Addr) (cap : Nat) (l : List (Int × Int)) (hl : l.length ≤ 1048576) {w : World} (ha : PairsAt w a l) (c : Int) :
    Calls Try.prog 50 #[.slice a l.length cap, .int .i64 c] w fun e w' => e = .returned (.bool (upTo l c)) ∧ Below w.heap.size w w' := by
  cases hm : musOk l
  · have e : upTo l c = false := by unfold upTo; rw [hm]; rfl
    rw [e]
    exact muUpTo_any_no a cap l hl ha c hm
  · have e : upTo l c = inB 0 c (total l) := by unfold upTo; rw [hm]; rfl
    rw [e]
    exact muUpTo_any_yes a cap l hm ha c

set_option maxHeartbeats 1000000 in
theorem specIsMusic_any (a : Option Addr) (cap : Nat) (l : List (Int × Int)) (hl : l.length ≤ 1048576) {w : World} (ha : PairsAt w a l) :
    Calls Try.prog 15 #[.slice a l.length cap] w fun e w' => e = .returned (.bool (musOk l)) ∧ Below w.heap.size w w' := by
  have HG := Lib.hid (fun (W : World) (hb : Below w.heap.size w W) => muGood_any a cap l hl (ha.below hb))
  skip
  all_goals
    go_enter Try.func15, Try.ntmps15
    go_wp2_with (first | (go_at_call 41; (refine (HG.out _ (by repeat (first | exact Below.refl _ _ | assumption | refine Below.drew ?_ | refine below_drewN ?_ _ | refine Below.alloc ?_ (by first | omega | (simp; done) | (simp; omega)) _ | refine Below.setCell ?_ (by first | omega | (simp; done) | (simp; omega)) _ | refine Below.trans ?_ (Below.mono (by assumption) (by first | omega | (simp; done) | (simp; omega)))))).mono ?_; rintro e w1 ⟨rfl, hb1⟩; have hs1 := hb1.size)))
    go_ret
    exact ⟨rfl, (by repeat (first | exact Below.refl _ _ | assumption | refine Below.drew ?_ | refine below_drewN ?_ _ | refine Below.alloc ?_ (by first | omega | (simp; done) | (simp; omega)) _ | refine Below.setCell ?_ (by first | omega | (simp; done) | (simp; omega)) _ | refine Below.trans ?_ (Below.mono (by assumption) (by first | omega | (simp; done) | (simp; omega)))))⟩

set_option maxHeartbeats 1000000 in
theorem specCountsOf_no (a : Option Addr) (cap : Nat) (l : List (Int × Int)) (hl : l.length ≤ 1048576) {w : World} (ha : PairsAt w a l) (hg : musOk l = false) :
    Calls Try.prog 19 #[.slice a l.length cap] w fun e w' => e = .returned (.tuple #[.int .i64 0, .bool false]) ∧ Below w.heap.size w w' := by
  have HG := Lib.hid (fun (W : World) (hb : Below w.heap.size w W) => muGood_any a cap l hl (ha.below hb))
  skip
  all_goals
    go_enter Try.func19, Try.ntmps19
    go_wp2_with (first | (go_at_call 41; (refine (HG.out _ (by repeat (first | exact Below.refl _ _ | assumption | refine Below.drew ?_ | refine below_drewN ?_ _ | refine Below.alloc ?_ (by first | omega | (simp; done) | (simp; omega)) _ | refine Below.setCell ?_ (by first | omega | (simp; done) | (simp; omega)) _ | refine Below.trans ?_ (Below.mono (by assumption) (by first | omega | (simp; done) | (simp; omega)))))).mono ?_; rintro e w1 ⟨rfl, hb1⟩; have hs1 := hb1.size)))
    go_ret2
    exact ⟨rfl, (by repeat (first | exact Below.refl _ _ | assumption | refine Below.drew ?_ | refine below_drewN ?_ _ | refine Below.alloc ?_ (by first | omega | (simp; done) | (simp; omega)) _ | refine Below.setCell ?_ (by first | omega | (simp; done) | (simp; omega)) _ | refine Below.trans ?_ (Below.mono (by assumption) (by first | omega | (simp; done) | (simp; omega)))))⟩

set_option maxHeartbeats 1000000 in
theorem specCountsOf_yes (a : Option Addr) (cap : Nat) (l : List (Int × Int)) (hm : musOk l = true) {w : World} (ha : PairsAt w a l) :
    Calls Try.prog 19 #[.slice a l.length cap] w fun e w' => e = .returned (.tuple #[.int .i64 (total l), .bool true]) ∧ Below w.heap.size w w' := by
  have hl : l.length ≤ 1048576 := by have := (musOk_len hm).2; omega
  have HG := Lib.hid (fun (W : World) (hb : Below w.heap.size w W) => muGood_any a cap l hl (ha.below hb))
  have HC := Lib.hid (fun (W : World) (hb : Below w.heap.size w W) => muCounts_any a cap l hm (ha.below hb))
  skip
  all_goals
    go_enter Try.func19, Try.ntmps19
    go_wp2_with (first | (go_at_call 41; (refine (HG.out _ (by repeat (first | exact Below.refl _ _ | assumption | refine Below.drew ?_ | refine below_drewN ?_ _ | refine Below.alloc ?_ (by first | omega | (simp; done) | (simp; omega)) _ | refine Below.setCell ?_ (by first | omega | (simp; done) | (simp; omega)) _ | refine Below.trans ?_ (Below.mono (by assumption) (by first | omega | (simp; done) | (simp; omega)))))).mono ?_; rintro e w1 ⟨rfl, hb1⟩; have hs1 := hb1.size)) | (go_at_call 45; (refine (HC.out _ (by repeat (first | exact Below.refl _ _ | assumption | refine Below.drew ?_ | refine below_drewN ?_ _ | refine Below.alloc ?_ (by first | omega | (simp; done) | (simp; omega)) _ | refine Below.setCell ?_ (by first | omega | (simp; done) | (simp; omega)) _ | refine Below.trans ?_ (Below.mono (by assumption) (by first | omega | (simp; done) | (simp; omega)))))).mono ?_; rintro e w1 ⟨rfl, hb1⟩; have hs1 := hb1.size)))
    go_ret2
    exact ⟨rfl, (by repeat (first | exact Below.refl _ _ | assumption | refine Below.drew ?_ | refine below_drewN ?_ _ | refine Below.alloc ?_ (by first | omega | (simp; done) | (simp; omega)) _ | refine Below.setCell ?_ (by first | omega | (simp; done) | (simp; omega)) _ | refine Below.trans ?_ (Below.mono (by assumption) (by first | omega | (simp; done) | (simp; omega)))))⟩

theorem specCountsOf_any (a : Option Addr) (cap : Nat) (l : List (Int × Int)) (hl : l.length ≤ 1048576) {w : World} (ha : PairsAt w a l) :
    Calls Try.prog 19 #[.slice a l.length cap] w fun e w' => e = .returned (.tuple #[.int .i64 (guardI (musOk l) (total l)), .bool (musOk l)]) ∧ Below w.heap.size w w' := by
  cases hm : musOk l
  · exact specCountsOf_no a cap l hl ha hm
  · exact specCountsOf_yes a cap l hm ha

set_option maxHeartbeats 1000000 in
theorem muAt_any (a : Option Addr) (cap : Nat) (l : List (Int × Int)) (hm : musOk l = true) {w : World} (ha : PairsAt w a l) (c : Int) (h0 : 0 ≤ c) (h1 : c < total l) :
    Calls Try.prog 48 #[.slice a l.length cap, .int .i64 c] w fun e w' => e = .returned (.tuple #[.int .i64 (atM l c), .int .i64 (c - cn l (atM l c))]) ∧ Below w.heap.size w w' := by
  obtain ⟨n1, n2⟩ := musOk_len hm
  obtain ⟨t1, t2⟩ := total_bound hm
  have hat := atM_lt hm h0 h1
  obtain ⟨i, hi⟩ : ∃ i, i = atM l c := ⟨_, rfl⟩
  rw [← hi] at hat ⊢
  obtain ⟨a1, a2, a3⟩ := hat
  clear hi
  have Hm := Lib.hid hm
  clear hm
  go_enter Try.func48, Try.ntmps48
  go_wp2
  go_loopw [1, 6] (fun s j wr => ∃ k : Nat, k ≤ i ∧ j = .int .i64 k ∧ s = .int .i64 (c - cn l k) ∧ Below w.heap.size w wr) (fun _ j _ => l.length - (intOf j).toNat)
  case atStart => exact ⟨0, Nat.zero_le _, rfl, by simp [cn], Below.refl _ _⟩
  case round =>
    obtain ⟨k, hk, rfl, rfl, hbr⟩ := hrel
    have hsr := hbr.size
    have hlt : k < l.length := by omega
    obtain ⟨b, off, rfl, c0, c1⟩ := (ha.below hbr) k hlt
    obtain ⟨b1, b2⟩ := cn_bound Hm.out k (by omega)
    obtain ⟨⟨b3, b4⟩, _⟩ := musOk_at Hm.out k hlt
    have hst : cn l (k + 1) = cn l k + sx l k := rfl
    have i0 : (0 : Int) ≤ (k : Int) := by omega
    have i1 : (k : Int) < (l.length : Int) := by omega
    have v1 : IntKind.i64.wrap (c - cn l k - sx l k) = c - cn l k - sx l k := IntWalk.i64_in _ (by omega)
    by_cases hki : k = i
    · subst hki
      have hn : ¬ sx l k ≤ c - cn l k := by omega
      go_wp2
      go_ret2
      exact ⟨rfl, (by repeat (first | exact Below.refl _ _ | assumption | refine Below.drew ?_ | refine below_drewN ?_ _ | refine Below.alloc ?_ (by first | omega | (simp; done) | (simp; omega)) _ | refine Below.setCell ?_ (by first | omega | (simp; done) | (simp; omega)) _ | refine Below.trans ?_ (Below.mono (by assumption) (by first | omega | (simp; done) | (simp; omega)))))⟩
    · have hmo := cn_mono Hm.out (i := k + 1) (j := i) (by omega) (by omega)
      have hn : sx l k ≤ c - cn l k := by omega
      have v2 : c - cn l k - sx l k = c - cn l (k + 1) := by omega
      have V2 := Lib.hid v2
      clear v2 hst hmo
      go_wp2
      go_roundw
      case rel => exact ⟨k + 1, by omega, by go_num, by rw [V2.out], (by repeat (first | exact Below.refl _ _ | assumption | refine Below.drew ?_ | refine below_drewN ?_ _ | refine Below.alloc ?_ (by first | omega | (simp; done) | (simp; omega)) _ | refine Below.setCell ?_ (by first | omega | (simp; done) | (simp; omega)) _ | refine Below.trans ?_ (Below.mono (by assumption) (by first | omega | (simp; done) | (simp; omega)))))⟩
      case measure => simp [intOf]; omega

set_option maxHeartbeats 1000000 in
theorem specMeasureAt_no (a : Option Addr) (cap : Nat) (l : List (Int × Int)) (hl : l.length ≤ 1048576) {w : World} (ha : PairsAt w a l) (c : Int) (hg : hasC l c = false) :
    Calls Try.prog 21 #[.slice a l.length cap, .int .i64 c] w fun e w' => e = .returned (.tuple #[.int .i64 0, .int .i64 0, .bool false]) ∧ Below w.heap.size w w' := by
  have HG := Lib.hid (fun (W : World) (hb : Below w.heap.size w W) => muHas_any a cap l hl (ha.below hb) c)
  skip
  all_goals
    go_enter Try.func21, Try.ntmps21
    go_wp2_with (first | (go_at_call 47; (refine (HG.out _ (by repeat (first | exact Below.refl _ _ | assumption | refine Below.drew ?_ | refine below_drewN ?_ _ | refine Below.alloc ?_ (by first | omega | (simp; done) | (simp; omega)) _ | refine Below.setCell ?_ (by first | omega | (simp; done) | (simp; omega)) _ | refine Below.trans ?_ (Below.mono (by assumption) (by first | omega | (simp; done) | (simp; omega)))))).mono ?_; rintro e w1 ⟨rfl, hb1⟩; have hs1 := hb1.size)))
    go_ret3
    exact ⟨rfl, (by repeat (first | exact Below.refl _ _ | assumption | refine Below.drew ?_ | refine below_drewN ?_ _ | refine Below.alloc ?_ (by first | omega | (simp; done) | (simp; omega)) _ | refine Below.setCell ?_ (by first | omega | (simp; done) | (simp; omega)) _ | refine Below.trans ?_ (Below.mono (by assumption) (by first | omega | (simp; done) | (simp; omega)))))⟩

set_option maxHeartbeats 1000000 in
theorem specMeasureAt_yes (a : Option Addr) (cap : Nat) (l : List (Int × Int)) (hl : l.length ≤ 1048576) {w : World} (ha : PairsAt w a l) (c : Int) (hg : hasC l c = true) :
    Calls Try.prog 21 #[.slice a l.length cap, .int .i64 c] w fun e w' => e = .returned (.tuple #[.int .i64 (atM l c), .int .i64 (c - cn l (atM l c)), .bool true]) ∧ Below w.heap.size w w' := by
  obtain ⟨hm, h0, h1⟩ := hasC_iff.1 hg
  have HG := Lib.hid (fun (W : World) (hb : Below w.heap.size w W) => muHas_any a cap l hl (ha.below hb) c)
  have HA := Lib.hid (fun (W : World) (hb : Below w.heap.size w W) => muAt_any a cap l hm (ha.below hb) c h0 h1)
  skip
  all_goals
    go_enter Try.func21, Try.ntmps21
    go_wp2_with (first | (go_at_call 47; (refine (HG.out _ (by repeat (first | exact Below.refl _ _ | assumption | refine Below.drew ?_ | refine below_drewN ?_ _ | refine Below.alloc ?_ (by first | omega | (simp; done) | (simp; omega)) _ | refine Below.setCell ?_ (by first | omega | (simp; done) | (simp; omega)) _ | refine Below.trans ?_ (Below.mono (by assumption) (by first | omega | (simp; done) | (simp; omega)))))).mono ?_; rintro e w1 ⟨rfl, hb1⟩; have hs1 := hb1.size)) | (go_at_call 48; (refine (HA.out _ (by repeat (first | exact Below.refl _ _ | assumption | refine Below.drew ?_ | refine below_drewN ?_ _ | refine Below.alloc ?_ (by first | omega | (simp; done) | (simp; omega)) _ | refine Below.setCell ?_ (by first | omega | (simp; done) | (simp; omega)) _ | refine Below.trans ?_ (Below.mono (by assumption) (by first | omega | (simp; done) | (simp; omega)))))).mono ?_; rintro e w1 ⟨rfl, hb1⟩; have hs1 := hb1.size)))
    go_ret3
    exact ⟨rfl, (by repeat (first | exact Below.refl _ _ | assumption | refine Below.drew ?_ | refine below_drewN ?_ _ | refine Below.alloc ?_ (by first | omega | (simp; done) | (simp; omega)) _ | refine Below.setCell ?_ (by first | omega | (simp; done) | (simp; omega)) _ | refine Below.trans ?_ (Below.mono (by assumption) (by first | omega | (simp; done) | (simp; omega)))))⟩

theorem specMeasureAt_any (a : Option Addr) (cap : Nat) (l : List (Int × Int)) (hl : l.length ≤ 1048576) {w : World} (ha : PairsAt w a l) (c : Int) :
    Calls Try.prog 21 #[.slice a l.length cap, .int .i64 c] w fun e w' => e = .returned (.tuple #[.int .i64 (guardI (hasC l c) (atM l c)), .int .i64 (guardI (hasC l c) (c - cn l (atM l c))), .bool (hasC l c)]) ∧ Below w.heap.size w w' := by
  cases hg : hasC l c
  · exact specMeasureAt_no a cap l hl ha c hg
  · exact specMeasureAt_yes a cap l hl ha c hg

end Go.Proofs.Ytbpphcdhbbhjpaa
