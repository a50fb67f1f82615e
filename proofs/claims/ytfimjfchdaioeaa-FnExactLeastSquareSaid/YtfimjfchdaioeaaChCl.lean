/- The closest pair of a chart: mathematics, the specification's side. No conditions but those written in each theorem. -/
import Derived.Test.YtfimjfchdaioeaaChLeast
import Derived.Deep.RegionHeld3
import Derived.Deep.DrawnRows
import Derived.IntWalk
namespace Go.Proofs.Ytfimjfchdaioeaa
open Go.RowKit


attribute [local go_sem ↓] Go.wp_at_zero Go.wp_at_succ

/-- A chart with two performers or more. -/
def clOk (l : List (Int × Int)) : Bool := chOk l && decide (2 ≤ l.length)
theorem clOk_ch {l : List (Int × Int)} (h : chOk l = false) : clOk l = false := by unfold clOk; rw [h]; rfl
theorem clOk_len {l : List (Int × Int)} (h : l.length < 2) : clOk l = false := by unfold clOk; rw [decide_eq_false (by omega), Bool.and_false]
theorem clOk_yes {l : List (Int × Int)} (h : chOk l = true) (h2 : 2 ≤ l.length) : clOk l = true := by unfold clOk; rw [h, decide_eq_true h2]; rfl
theorem clOk_not {l : List (Int × Int)} (h1 : l.length ≠ 1) : clOk l = chOk l := by
  cases h : chOk l
  · exact clOk_ch h
  · exact clOk_yes h (by have := (chOk_parts h).2.2.1; omega)
/-- The closest pair is one of the chart, with the least square. -/
theorem best_at {l : List (Int × Int)} (h : allOn l = true) (h2 : 2 ≤ l.length) : (bestB l).a < (bestB l).b ∧ (bestB l).b < l.length ∧ leastV l = sqp l (bestB l).a (bestB l).b := by
  obtain ⟨f1, f2⟩ := Fine.out h l.length (Nat.le_refl _)
  have h0 := f2 0 1 (by omega) (by omega) (by omega)
  unfold leastV bestB
  rcases f1 with f1 | f1
  · omega
  · exact ⟨f1.2.2.1, f1.2.2.2.1, f1.2.2.2.2⟩

set_option maxHeartbeats 1000000 in
theorem specPair_no (a : Option Addr) (cap : Nat) (l : List (Int × Int)) (hl : l.length ≤ 1048576) (hc : l.length ≤ cap) {w : World} (ha : PairsAt w a l) (hv : chOk l = false) :
    Calls Try.prog 21 #[.slice a l.length cap] w fun e w' => e = .returned (.tuple #[.int .i64 (guardI (clOk l) ((bestB l).a : Int)), .int .i64 (guardI (clOk l) ((bestB l).b : Int)), .bool (clOk l)]) ∧ Below w.heap.size w w' := by
  have HG := Lib.hid (fun (W : World) (hb : Below w.heap.size w W) => chGood_any a cap l hl hc (ha.below hb))
  rw [hv] at HG
  rw [clOk_ch hv]
  clear hv ha
  go_enter Try.func21, Try.ntmps21
  go_wp2_with (go_at_call 45; ((with_reducible refine (HG.out _ (by repeat (first | exact Below.refl _ _ | assumption | refine Below.drew ?_ | refine below_drewN ?_ _ | refine Below.alloc ?_ (by first | omega | (simp; done) | (simp; omega)) _ | refine Below.setCell ?_ (by first | omega | (simp; done) | (simp; omega)) _ | refine Below.trans ?_ (Below.mono (by assumption) (by first | omega | (simp; done) | (simp; omega)))))).mono ?_); rintro e w1 ⟨rfl, hb1⟩; have hs1 := hb1.size; (try simp at hs1)))
  first | exact bodyPost_ret (v := .tuple #[.int .i64 0, .int .i64 0, .bool false]) (by simp [results, Try.results21, go_sem, *]) rfl ⟨rfl, (by repeat (first | exact Below.refl _ _ | assumption | refine Below.drew ?_ | refine below_drewN ?_ _ | refine Below.alloc ?_ (by first | omega | (simp; done) | (simp; omega)) _ | refine Below.setCell ?_ (by first | omega | (simp; done) | (simp; omega)) _ | refine Below.trans ?_ (Below.mono (by assumption) (by first | omega | (simp; done) | (simp; omega)))))⟩

set_option maxHeartbeats 1000000 in
theorem specPair_one (a : Option Addr) (cap : Nat) (l : List (Int × Int)) (hl : l.length ≤ 1048576) (hc : l.length ≤ cap) {w : World} (ha : PairsAt w a l) (hv : chOk l = true) (h2 : l.length < 2) :
    Calls Try.prog 21 #[.slice a l.length cap] w fun e w' => e = .returned (.tuple #[.int .i64 (guardI (clOk l) ((bestB l).a : Int)), .int .i64 (guardI (clOk l) ((bestB l).b : Int)), .bool (clOk l)]) ∧ Below w.heap.size w w' := by
  have HG := Lib.hid (fun (W : World) (hb : Below w.heap.size w W) => chGood_any a cap l hl hc (ha.below hb))
  rw [hv] at HG
  rw [clOk_len h2]
  have i2 : (l.length : Int) < 2 := by omega
  clear hv ha
  go_enter Try.func21, Try.ntmps21
  go_wp2_with (go_at_call 45; ((with_reducible refine (HG.out _ (by repeat (first | exact Below.refl _ _ | assumption | refine Below.drew ?_ | refine below_drewN ?_ _ | refine Below.alloc ?_ (by first | omega | (simp; done) | (simp; omega)) _ | refine Below.setCell ?_ (by first | omega | (simp; done) | (simp; omega)) _ | refine Below.trans ?_ (Below.mono (by assumption) (by first | omega | (simp; done) | (simp; omega)))))).mono ?_); rintro e w1 ⟨rfl, hb1⟩; have hs1 := hb1.size; (try simp at hs1)))
  first | exact bodyPost_ret (v := .tuple #[.int .i64 0, .int .i64 0, .bool false]) (by simp [results, Try.results21, go_sem, *]) rfl ⟨rfl, (by repeat (first | exact Below.refl _ _ | assumption | refine Below.drew ?_ | refine below_drewN ?_ _ | refine Below.alloc ?_ (by first | omega | (simp; done) | (simp; omega)) _ | refine Below.setCell ?_ (by first | omega | (simp; done) | (simp; omega)) _ | refine Below.trans ?_ (Below.mono (by assumption) (by first | omega | (simp; done) | (simp; omega)))))⟩

set_option maxHeartbeats 1000000 in
theorem specPair_yes (a : Option Addr) (cap : Nat) (l : List (Int × Int)) (hl : l.length ≤ 1048576) (hc : l.length ≤ cap) {w : World} (ha : PairsAt w a l) (hv : chOk l = true) (h2 : 2 ≤ l.length) :
    Calls Try.prog 21 #[.slice a l.length cap] w fun e w' => e = .returned (.tuple #[.int .i64 (guardI (clOk l) ((bestB l).a : Int)), .int .i64 (guardI (clOk l) ((bestB l).b : Int)), .bool (clOk l)]) ∧ Below w.heap.size w w' := by
  have HG := Lib.hid (fun (W : World) (hb : Below w.heap.size w W) => chGood_any a cap l hl hc (ha.below hb))
  rw [hv] at HG
  have HL := Lib.hid (fun (W : World) (hb : Below w.heap.size w W) => chLeast_any a cap l hl (chOk_parts hv).1 (ha.below hb))
  rw [clOk_yes hv h2]
  have e9 : (bestB l).n = leastV l := rfl
  rw [e9] at HL
  obtain ⟨F, hF⟩ : ∃ z : Int, z = ((bestB l).a : Int) := ⟨_, rfl⟩
  obtain ⟨S, hS⟩ : ∃ z : Int, z = ((bestB l).b : Int) := ⟨_, rfl⟩
  obtain ⟨V, hV⟩ : ∃ z : Int, z = leastV l := ⟨_, rfl⟩
  rw [← hF, ← hS, ← hV] at HL
  rw [← hF, ← hS]
  have i2 : ¬ (l.length : Int) < 2 := by omega
  clear hv ha e9 hF hS hV
  go_enter Try.func21, Try.ntmps21
  go_wp2_with (first | (go_at_call 45; ((with_reducible refine (HG.out _ (by repeat (first | exact Below.refl _ _ | assumption | refine Below.drew ?_ | refine below_drewN ?_ _ | refine Below.alloc ?_ (by first | omega | (simp; done) | (simp; omega)) _ | refine Below.setCell ?_ (by first | omega | (simp; done) | (simp; omega)) _ | refine Below.trans ?_ (Below.mono (by assumption) (by first | omega | (simp; done) | (simp; omega)))))).mono ?_); rintro e w1 ⟨rfl, hb1⟩; have hs1 := hb1.size; (try simp at hs1))) | (go_at_call 50; ((with_reducible refine (HL.out _ (by repeat (first | exact Below.refl _ _ | assumption | refine Below.drew ?_ | refine below_drewN ?_ _ | refine Below.alloc ?_ (by first | omega | (simp; done) | (simp; omega)) _ | refine Below.setCell ?_ (by first | omega | (simp; done) | (simp; omega)) _ | refine Below.trans ?_ (Below.mono (by assumption) (by first | omega | (simp; done) | (simp; omega)))))).mono ?_); rintro e w1 ⟨rfl, hb1⟩; have hs1 := hb1.size; (try simp at hs1))))
  first | exact bodyPost_ret (v := .tuple #[.int .i64 F, .int .i64 S, .bool true]) (by simp [results, Try.results21, go_sem, *]) rfl ⟨rfl, (by repeat (first | exact Below.refl _ _ | assumption | refine Below.drew ?_ | refine below_drewN ?_ _ | refine Below.alloc ?_ (by first | omega | (simp; done) | (simp; omega)) _ | refine Below.setCell ?_ (by first | omega | (simp; done) | (simp; omega)) _ | refine Below.trans ?_ (Below.mono (by assumption) (by first | omega | (simp; done) | (simp; omega)))))⟩

theorem specPair_any (a : Option Addr) (cap : Nat) (l : List (Int × Int)) (hl : l.length ≤ 1048576) (hc : l.length ≤ cap) {w : World} (ha : PairsAt w a l) :
    Calls Try.prog 21 #[.slice a l.length cap] w fun e w' => e = .returned (.tuple #[.int .i64 (guardI (clOk l) ((bestB l).a : Int)), .int .i64 (guardI (clOk l) ((bestB l).b : Int)), .bool (clOk l)]) ∧ Below w.heap.size w w' := by
  cases hv : chOk l
  · exact specPair_no a cap l hl hc ha hv
  · by_cases h2 : l.length < 2
    · exact specPair_one a cap l hl hc ha hv h2
    · exact specPair_yes a cap l hl hc ha hv (by omega)

set_option maxHeartbeats 1000000 in
theorem specLeastSq_no (a : Option Addr) (cap : Nat) (l : List (Int × Int)) (hl : l.length ≤ 1048576) (hc : l.length ≤ cap) {w : World} (ha : PairsAt w a l) (hv : chOk l = false) :
    Calls Try.prog 19 #[.slice a l.length cap] w fun e w' => e = .returned (.tuple #[.int .i64 (guardI (clOk l) (leastV l)), .bool (clOk l)]) ∧ Below w.heap.size w w' := by
  have HG := Lib.hid (fun (W : World) (hb : Below w.heap.size w W) => chGood_any a cap l hl hc (ha.below hb))
  rw [hv] at HG
  rw [clOk_ch hv]
  clear hv ha
  go_enter Try.func19, Try.ntmps19
  go_wp2_with (go_at_call 45; ((with_reducible refine (HG.out _ (by repeat (first | exact Below.refl _ _ | assumption | refine Below.drew ?_ | refine below_drewN ?_ _ | refine Below.alloc ?_ (by first | omega | (simp; done) | (simp; omega)) _ | refine Below.setCell ?_ (by first | omega | (simp; done) | (simp; omega)) _ | refine Below.trans ?_ (Below.mono (by assumption) (by first | omega | (simp; done) | (simp; omega)))))).mono ?_); rintro e w1 ⟨rfl, hb1⟩; have hs1 := hb1.size; (try simp at hs1)))
  first | exact bodyPost_ret (v := .tuple #[.int .i64 0, .bool false]) (by simp [results, Try.results19, go_sem, *]) rfl ⟨rfl, (by repeat (first | exact Below.refl _ _ | assumption | refine Below.drew ?_ | refine below_drewN ?_ _ | refine Below.alloc ?_ (by first | omega | (simp; done) | (simp; omega)) _ | refine Below.setCell ?_ (by first | omega | (simp; done) | (simp; omega)) _ | refine Below.trans ?_ (Below.mono (by assumption) (by first | omega | (simp; done) | (simp; omega)))))⟩

set_option maxHeartbeats 1000000 in
theorem specLeastSq_one (a : Option Addr) (cap : Nat) (l : List (Int × Int)) (hl : l.length ≤ 1048576) (hc : l.length ≤ cap) {w : World} (ha : PairsAt w a l) (hv : chOk l = true) (h2 : l.length < 2) :
    Calls Try.prog 19 #[.slice a l.length cap] w fun e w' => e = .returned (.tuple #[.int .i64 (guardI (clOk l) (leastV l)), .bool (clOk l)]) ∧ Below w.heap.size w w' := by
  have HG := Lib.hid (fun (W : World) (hb : Below w.heap.size w W) => chGood_any a cap l hl hc (ha.below hb))
  rw [hv] at HG
  rw [clOk_len h2]
  have i2 : (l.length : Int) < 2 := by omega
  clear hv ha
  go_enter Try.func19, Try.ntmps19
  go_wp2_with (go_at_call 45; ((with_reducible refine (HG.out _ (by repeat (first | exact Below.refl _ _ | assumption | refine Below.drew ?_ | refine below_drewN ?_ _ | refine Below.alloc ?_ (by first | omega | (simp; done) | (simp; omega)) _ | refine Below.setCell ?_ (by first | omega | (simp; done) | (simp; omega)) _ | refine Below.trans ?_ (Below.mono (by assumption) (by first | omega | (simp; done) | (simp; omega)))))).mono ?_); rintro e w1 ⟨rfl, hb1⟩; have hs1 := hb1.size; (try simp at hs1)))
  first | exact bodyPost_ret (v := .tuple #[.int .i64 0, .bool false]) (by simp [results, Try.results19, go_sem, *]) rfl ⟨rfl, (by repeat (first | exact Below.refl _ _ | assumption | refine Below.drew ?_ | refine below_drewN ?_ _ | refine Below.alloc ?_ (by first | omega | (simp; done) | (simp; omega)) _ | refine Below.setCell ?_ (by first | omega | (simp; done) | (simp; omega)) _ | refine Below.trans ?_ (Below.mono (by assumption) (by first | omega | (simp; done) | (simp; omega)))))⟩

set_option maxHeartbeats 1000000 in
theorem specLeastSq_yes (a : Option Addr) (cap : Nat) (l : List (Int × Int)) (hl : l.length ≤ 1048576) (hc : l.length ≤ cap) {w : World} (ha : PairsAt w a l) (hv : chOk l = true) (h2 : 2 ≤ l.length) :
    Calls Try.prog 19 #[.slice a l.length cap] w fun e w' => e = .returned (.tuple #[.int .i64 (guardI (clOk l) (leastV l)), .bool (clOk l)]) ∧ Below w.heap.size w w' := by
  have HG := Lib.hid (fun (W : World) (hb : Below w.heap.size w W) => chGood_any a cap l hl hc (ha.below hb))
  rw [hv] at HG
  have HL := Lib.hid (fun (W : World) (hb : Below w.heap.size w W) => chLeast_any a cap l hl (chOk_parts hv).1 (ha.below hb))
  rw [clOk_yes hv h2]
  have e9 : (bestB l).n = leastV l := rfl
  rw [e9] at HL
  obtain ⟨F, hF⟩ : ∃ z : Int, z = ((bestB l).a : Int) := ⟨_, rfl⟩
  obtain ⟨S, hS⟩ : ∃ z : Int, z = ((bestB l).b : Int) := ⟨_, rfl⟩
  obtain ⟨V, hV⟩ : ∃ z : Int, z = leastV l := ⟨_, rfl⟩
  rw [← hF, ← hS, ← hV] at HL
  rw [← hV]
  have i2 : ¬ (l.length : Int) < 2 := by omega
  clear hv ha e9 hF hS hV
  go_enter Try.func19, Try.ntmps19
  go_wp2_with (first | (go_at_call 45; ((with_reducible refine (HG.out _ (by repeat (first | exact Below.refl _ _ | assumption | refine Below.drew ?_ | refine below_drewN ?_ _ | refine Below.alloc ?_ (by first | omega | (simp; done) | (simp; omega)) _ | refine Below.setCell ?_ (by first | omega | (simp; done) | (simp; omega)) _ | refine Below.trans ?_ (Below.mono (by assumption) (by first | omega | (simp; done) | (simp; omega)))))).mono ?_); rintro e w1 ⟨rfl, hb1⟩; have hs1 := hb1.size; (try simp at hs1))) | (go_at_call 50; ((with_reducible refine (HL.out _ (by repeat (first | exact Below.refl _ _ | assumption | refine Below.drew ?_ | refine below_drewN ?_ _ | refine Below.alloc ?_ (by first | omega | (simp; done) | (simp; omega)) _ | refine Below.setCell ?_ (by first | omega | (simp; done) | (simp; omega)) _ | refine Below.trans ?_ (Below.mono (by assumption) (by first | omega | (simp; done) | (simp; omega)))))).mono ?_); rintro e w1 ⟨rfl, hb1⟩; have hs1 := hb1.size; (try simp at hs1))))
  first | exact bodyPost_ret (v := .tuple #[.int .i64 V, .bool true]) (by simp [results, Try.results19, go_sem, *]) rfl ⟨rfl, (by repeat (first | exact Below.refl _ _ | assumption | refine Below.drew ?_ | refine below_drewN ?_ _ | refine Below.alloc ?_ (by first | omega | (simp; done) | (simp; omega)) _ | refine Below.setCell ?_ (by first | omega | (simp; done) | (simp; omega)) _ | refine Below.trans ?_ (Below.mono (by assumption) (by first | omega | (simp; done) | (simp; omega)))))⟩

theorem specLeastSq_any (a : Option Addr) (cap : Nat) (l : List (Int × Int)) (hl : l.length ≤ 1048576) (hc : l.length ≤ cap) {w : World} (ha : PairsAt w a l) :
    Calls Try.prog 19 #[.slice a l.length cap] w fun e w' => e = .returned (.tuple #[.int .i64 (guardI (clOk l) (leastV l)), .bool (clOk l)]) ∧ Below w.heap.size w w' := by
  cases hv : chOk l
  · exact specLeastSq_no a cap l hl hc ha hv
  · by_cases h2 : l.length < 2
    · exact specLeastSq_one a cap l hl hc ha hv h2
    · exact specLeastSq_yes a cap l hl hc ha hv (by omega)

set_option maxHeartbeats 1000000 in
theorem specIsChart_any (a : Option Addr) (cap : Nat) (l : List (Int × Int)) (hl : l.length ≤ 1048576) (hc : l.length ≤ cap) {w : World} (ha : PairsAt w a l) :
    Calls Try.prog 15 #[.slice a l.length cap] w fun e w' => e = .returned (.bool (chOk l)) ∧ Below w.heap.size w w' := by
  have HG := Lib.hid (fun (W : World) (hb : Below w.heap.size w W) => chGood_any a cap l hl hc (ha.below hb))
  go_enter Try.func15, Try.ntmps15
  go_wp2_with (go_at_call 45; ((with_reducible refine (HG.out _ (by repeat (first | exact Below.refl _ _ | assumption | refine Below.drew ?_ | refine below_drewN ?_ _ | refine Below.alloc ?_ (by first | omega | (simp; done) | (simp; omega)) _ | refine Below.setCell ?_ (by first | omega | (simp; done) | (simp; omega)) _ | refine Below.trans ?_ (Below.mono (by assumption) (by first | omega | (simp; done) | (simp; omega)))))).mono ?_); rintro e w1 ⟨rfl, hb1⟩; have hs1 := hb1.size; (try simp at hs1)))
  go_ret
  exact ⟨rfl, (by repeat (first | exact Below.refl _ _ | assumption | refine Below.drew ?_ | refine below_drewN ?_ _ | refine Below.alloc ?_ (by first | omega | (simp; done) | (simp; omega)) _ | refine Below.setCell ?_ (by first | omega | (simp; done) | (simp; omega)) _ | refine Below.trans ?_ (Below.mono (by assumption) (by first | omega | (simp; done) | (simp; omega)))))⟩

end Go.Proofs.Ytfimjfchdaioeaa
