/- The middle of a form, both sides. No conditions but those written in each theorem. -/
import Derived.Test.YtppnomflmacpkaaFmBet
import Derived.Test.YtppnomflmacpkaaChIf
import Derived.Deep.RegionHeld3
import Derived.Deep.DrawnRows
import Derived.IntWalk
import Derived.Laws.AppendOwn
import Derived.Deep.AppendLies
namespace Go.Proofs.Ytppnomflmacpkaa
open Go.RowKit


attribute [local go_sem ↓] Go.wp_at_zero Go.wp_at_succ

/-- Sums. -/
def sumB (g : Nat → Int) : Nat → Int
  | 0 => 0
  | k + 1 => sumB g k + g k
theorem sumB_bound {g : Nat → Int} {M : Int} {n : Nat} (h : ∀ j, j < n → 0 ≤ g j ∧ g j ≤ M) : ∀ k, k ≤ n → 0 ≤ sumB g k ∧ sumB g k ≤ M * (k : Int)
  | 0, _ => by simp [sumB]
  | k + 1, hk => by
    have h1 := sumB_bound h k (by omega)
    have h2 := h k (by omega)
    rw [sumB, show ((k + 1 : Nat) : Int) = (k : Int) + 1 by omega, Int.mul_add, Int.mul_one]
    omega
theorem rnd_range {s d M : Int} (h0 : 0 ≤ s) (h1 : s ≤ M * d) (hd : 1 ≤ d) : 0 ≤ rnd s d ∧ rnd s d ≤ M := by
  unfold rnd
  refine ⟨Int.ediv_nonneg (by omega) (by omega), ?_⟩
  have : (2 * s + d) / (2 * d) < M + 1 := Int.ediv_lt_of_lt_mul (by omega) (by
    have : (M + 1) * (2 * d) = 2 * (M * d) + 2 * d := by rw [Int.add_mul, Int.mul_left_comm, Int.one_mul]
    omega)
  omega
/-- The middle's numbers. -/
def midX (l : List (Int × Int)) : Int := rnd (sumB (sx l) l.length) (l.length : Int)
def midY (l : List (Int × Int)) : Int := rnd (sumB (sy l) l.length) (l.length : Int)
theorem sums_bound {l : List (Int × Int)} (h : allOn l = true) (k : Nat) (hk : k ≤ l.length) : (0 ≤ sumB (sx l) k ∧ sumB (sx l) k ≤ 1280 * (k : Int)) ∧ (0 ≤ sumB (sy l) k ∧ sumB (sy l) k ≤ 672 * (k : Int)) :=
  ⟨sumB_bound (fun j hj => (onField_iff.1 (allOn_at h j hj)).1) k hk, sumB_bound (fun j hj => (onField_iff.1 (allOn_at h j hj)).2) k hk⟩
theorem mid_bound {l : List (Int × Int)} (h : allOn l = true) (h1 : 1 ≤ l.length) : (0 ≤ midX l ∧ midX l ≤ 1280) ∧ (0 ≤ midY l ∧ midY l ≤ 672) := by
  obtain ⟨⟨a, b⟩, c, d⟩ := sums_bound h l.length (Nat.le_refl _)
  exact ⟨rnd_range a b (by omega), rnd_range c d (by omega)⟩

set_option maxHeartbeats 2000000 in
theorem fmMiddle_any (a : Option Addr) (cap : Nat) (l : List (Int × Int)) (hon : allOn l = true) (h1 : 1 ≤ l.length) (h12 : l.length ≤ 12) {w : World} (ha : PairsAt w a l) :
    Calls Try.prog 52 #[.slice a l.length cap] w fun e w' => e = .returned (.agg #[.int .i64 (midX l), .int .i64 (midY l)]) ∧ Below w.heap.size w w' := by
  have HA := Lib.hid ha
  have HON := Lib.hid hon
  clear ha hon
  go_enter Try.func52, Try.ntmps52
  go_wp2
  have hbw : Below w.heap.size w (w.alloc (.cells #[.int .i64 0, .int .i64 0] 24)) := (by repeat (first | exact Below.refl _ _ | assumption | refine Below.drew ?_ | refine below_drewN ?_ _ | refine Below.alloc ?_ (by first | omega | (simp; done) | (simp; omega)) _ | refine Below.setCell ?_ (by first | omega | (simp; done) | (simp; omega)) _ | refine Below.trans ?_ (Below.mono (by assumption) (by first | omega | (simp; done) | (simp; omega)))))
  go_loopw [3, 4, 9] (fun xs ys i wr => ∃ (k : Nat), k ≤ l.length ∧ i = .int .i64 k ∧ xs = .int .i64 (sumB (sx l) k) ∧ ys = .int .i64 (sumB (sy l) k) ∧ Below w.heap.size w wr ∧ wr.cell? ⟨w.heap.size, 0, none⟩ = some (.int .i64 0) ∧ wr.cell? ⟨w.heap.size, 1, none⟩ = some (.int .i64 0) ∧ wr.frozen? ⟨w.heap.size, 0, none⟩ = false ∧ wr.frozen? ⟨w.heap.size, 1, none⟩ = false ∧ w.heap.size < wr.heap.size) (fun _ _ i _ => l.length - (intOf i).toNat)
  case atStart => exact ⟨0, Nat.zero_le _, rfl, rfl, rfl, hbw, by go_simp, by go_simp, by go_simp, by go_simp, (by first | omega | (simp; done) | (simp; omega))⟩
  case round =>
    clear hbw 
    obtain ⟨k, hk, rfl, rfl, rfl, hbr, z0, z1, f0, f1, hws⟩ := hrel
    have hsr := hbr.size
    obtain ⟨⟨s1, s2⟩, s3, s4⟩ := sums_bound HON.out k hk
    by_cases hlt : k < l.length
    · obtain ⟨b, off, rfl, c0, c1⟩ := (HA.out.below hbr) k hlt
      have hst1 : sumB (sx l) (k + 1) = sumB (sx l) k + sx l k := rfl
      have hst2 : sumB (sy l) (k + 1) = sumB (sy l) k + sy l k := rfl
      obtain ⟨⟨o1, o2⟩, o3, o4⟩ := onField_iff.1 (allOn_at HON.out k hlt)
      have HS1 := Lib.hid hst1
      have HS2 := Lib.hid hst2
      clear hst1 hst2
      obtain ⟨X, hX⟩ : ∃ X, X = sumB (sx l) k := ⟨_, rfl⟩
      obtain ⟨Y, hY⟩ : ∃ Y, Y = sumB (sy l) k := ⟨_, rfl⟩
      rw [← hX] at HS1 s1 s2 ⊢
      rw [← hY] at HS2 s3 s4 ⊢
      clear hX hY
      have v1 : IntKind.i64.wrap (X + sx l k) = X + sx l k := IntWalk.i64_in _ (by omega)
      have v2 : IntKind.i64.wrap (Y + sy l k) = Y + sy l k := IntWalk.i64_in _ (by omega)
      go_wp2
      go_roundw
      case rel => exact ⟨k + 1, by omega, by go_num, by rw [HS1.out], by rw [HS2.out], (by repeat (first | exact Below.refl _ _ | assumption | refine Below.drew ?_ | refine below_drewN ?_ _ | refine Below.alloc ?_ (by first | omega | (simp; done) | (simp; omega)) _ | refine Below.setCell ?_ (by first | omega | (simp; done) | (simp; omega)) _ | refine Below.trans ?_ (Below.mono (by assumption) (by first | omega | (simp; done) | (simp; omega))))), by go_simp, by go_simp, by go_simp, by go_simp, (by first | omega | (simp; done) | (simp; omega))⟩
      case measure => simp [intOf]; omega
    · obtain rfl : k = l.length := by omega
      have K1 := Lib.hid (fun W => fmRound_any (sumB (sx l) l.length) (l.length : Int) (by omega) (by omega) (by omega) (by omega) W)
      have K2 := Lib.hid (fun W => fmRound_any (sumB (sy l) l.length) (l.length : Int) (by omega) (by omega) (by omega) (by omega) W)
      have q1 : rnd (sumB (sx l) l.length) (l.length : Int) = midX l := rfl
      have q2 : rnd (sumB (sy l) l.length) (l.length : Int) = midY l := rfl
      rw [q1] at K1
      rw [q2] at K2
      clear q1 q2
      go_wp2_with (first | (go_at_call 55; ((with_reducible refine (K1.out _).mono ?_); rintro e w' ⟨rfl, rfl⟩)) | (go_at_call 55; ((with_reducible refine (K2.out _).mono ?_); rintro e w' ⟨rfl, rfl⟩)))
      exact bodyPost_ret (v := .agg #[.int .i64 (midX l), .int .i64 (midY l)]) (by simp [results, Try.results52, go_sem, *]) rfl ⟨rfl, (by repeat (first | exact Below.refl _ _ | assumption | refine Below.drew ?_ | refine below_drewN ?_ _ | refine Below.alloc ?_ (by first | omega | (simp; done) | (simp; omega)) _ | refine Below.setCell ?_ (by first | omega | (simp; done) | (simp; omega)) _ | refine Below.trans ?_ (Below.mono (by assumption) (by first | omega | (simp; done) | (simp; omega)))))⟩

set_option maxHeartbeats 1000000 in
theorem specMid_no (a : Option Addr) (cap : Nat) (l : List (Int × Int)) (hl : l.length ≤ 1048576) (hc : l.length ≤ cap) {w : World} (ha : PairsAt w a l) (hv : chOk l = false) :
    Calls Try.prog 25 #[.slice a l.length cap] w fun e w' => e = .returned (.tuple #[.agg #[.int .i64 0, .int .i64 0], .bool false]) ∧ Below w.heap.size w w' := by
  have HS := Lib.hid (fun (W : World) (hb : Below w.heap.size w W) => chGood_any a cap l hl hc (ha.below hb))
  have HV := Lib.hid hv
  clear hv
  go_enter Try.func25, Try.ntmps25
  go_wp2_with (first | (go_at_call 51; (refine (HS.out _ (by repeat (first | exact Below.refl _ _ | assumption | refine Below.drew ?_ | refine below_drewN ?_ _ | refine Below.alloc ?_ (by first | omega | (simp; done) | (simp; omega)) _ | refine Below.setCell ?_ (by first | omega | (simp; done) | (simp; omega)) _ | refine Below.trans ?_ (Below.mono (by assumption) (by first | omega | (simp; done) | (simp; omega)))))).mono ?_; rw [HV.out]; rintro e w1 ⟨rfl, hb1⟩; have hs1 := hb1.size; (try simp at hs1); have d10 : w1.cell? ⟨w.heap.size, 0, none⟩ = some (.int .i64 0) := (hb1.cell (p := ⟨w.heap.size, 0, none⟩) (by first | omega | (simp; done) | (simp; omega))).trans (by go_simp); have e10 : w1.frozen? ⟨w.heap.size, 0, none⟩ = false := (hb1.frozen (p := ⟨w.heap.size, 0, none⟩) (by first | omega | (simp; done) | (simp; omega))).trans (by go_simp); have d11 : w1.cell? ⟨w.heap.size, 1, none⟩ = some (.int .i64 0) := (hb1.cell (p := ⟨w.heap.size, 1, none⟩) (by first | omega | (simp; done) | (simp; omega))).trans (by go_simp); have e11 : w1.frozen? ⟨w.heap.size, 1, none⟩ = false := (hb1.frozen (p := ⟨w.heap.size, 1, none⟩) (by first | omega | (simp; done) | (simp; omega))).trans (by go_simp); have hz1 : w.heap.size < w1.heap.size := (by first | omega | (simp; done) | (simp; omega)))))
  exact bodyPost_ret (v := .tuple #[.agg #[.int .i64 0, .int .i64 0], .bool false]) (by simp [results, Try.results25, go_sem, *]) rfl ⟨rfl, (by repeat (first | exact Below.refl _ _ | assumption | refine Below.drew ?_ | refine below_drewN ?_ _ | refine Below.alloc ?_ (by first | omega | (simp; done) | (simp; omega)) _ | refine Below.setCell ?_ (by first | omega | (simp; done) | (simp; omega)) _ | refine Below.trans ?_ (Below.mono (by assumption) (by first | omega | (simp; done) | (simp; omega)))))⟩
set_option maxHeartbeats 1000000 in
theorem specMid_yes (a : Option Addr) (cap : Nat) (l : List (Int × Int)) (hl : l.length ≤ 1048576) (hc : l.length ≤ cap) {w : World} (ha : PairsAt w a l) (hv : chOk l = true) :
    Calls Try.prog 25 #[.slice a l.length cap] w fun e w' => e = .returned (.tuple #[.agg #[.int .i64 (midX l), .int .i64 (midY l)], .bool true]) ∧ Below w.heap.size w w' := by
  have HS := Lib.hid (fun (W : World) (hb : Below w.heap.size w W) => chGood_any a cap l hl hc (ha.below hb))
  obtain ⟨p1, p2, p3, p4⟩ := chOk_parts hv
  have HM := Lib.hid (fun (W : World) (hb : Below w.heap.size w W) => fmMiddle_any a cap l p1 p3 p4 (ha.below hb))
  have HV := Lib.hid hv
  clear hv p1 p2
  go_enter Try.func25, Try.ntmps25
  go_wp2_with (first | (go_at_call 51; (refine (HS.out _ (by repeat (first | exact Below.refl _ _ | assumption | refine Below.drew ?_ | refine below_drewN ?_ _ | refine Below.alloc ?_ (by first | omega | (simp; done) | (simp; omega)) _ | refine Below.setCell ?_ (by first | omega | (simp; done) | (simp; omega)) _ | refine Below.trans ?_ (Below.mono (by assumption) (by first | omega | (simp; done) | (simp; omega)))))).mono ?_; rw [HV.out]; rintro e w1 ⟨rfl, hb1⟩; have hs1 := hb1.size; (try simp at hs1); have d10 : w1.cell? ⟨w.heap.size, 0, none⟩ = some (.int .i64 0) := (hb1.cell (p := ⟨w.heap.size, 0, none⟩) (by first | omega | (simp; done) | (simp; omega))).trans (by go_simp); have e10 : w1.frozen? ⟨w.heap.size, 0, none⟩ = false := (hb1.frozen (p := ⟨w.heap.size, 0, none⟩) (by first | omega | (simp; done) | (simp; omega))).trans (by go_simp); have d11 : w1.cell? ⟨w.heap.size, 1, none⟩ = some (.int .i64 0) := (hb1.cell (p := ⟨w.heap.size, 1, none⟩) (by first | omega | (simp; done) | (simp; omega))).trans (by go_simp); have e11 : w1.frozen? ⟨w.heap.size, 1, none⟩ = false := (hb1.frozen (p := ⟨w.heap.size, 1, none⟩) (by first | omega | (simp; done) | (simp; omega))).trans (by go_simp); have hz1 : w.heap.size < w1.heap.size := (by first | omega | (simp; done) | (simp; omega)))) | (go_at_call 52; (refine (HM.out _ (by repeat (first | exact Below.refl _ _ | assumption | refine Below.drew ?_ | refine below_drewN ?_ _ | refine Below.alloc ?_ (by first | omega | (simp; done) | (simp; omega)) _ | refine Below.setCell ?_ (by first | omega | (simp; done) | (simp; omega)) _ | refine Below.trans ?_ (Below.mono (by assumption) (by first | omega | (simp; done) | (simp; omega)))))).mono ?_; rintro e w2 ⟨rfl, hb2⟩; have hs2 := hb2.size; have d20 : w2.cell? ⟨w.heap.size, 0, none⟩ = some (.int .i64 0) := (hb2.cell (p := ⟨w.heap.size, 0, none⟩) (by first | omega | (simp; done) | (simp; omega))).trans (d10); have e20 : w2.frozen? ⟨w.heap.size, 0, none⟩ = false := (hb2.frozen (p := ⟨w.heap.size, 0, none⟩) (by first | omega | (simp; done) | (simp; omega))).trans (e10); have d21 : w2.cell? ⟨w.heap.size, 1, none⟩ = some (.int .i64 0) := (hb2.cell (p := ⟨w.heap.size, 1, none⟩) (by first | omega | (simp; done) | (simp; omega))).trans (d11); have e21 : w2.frozen? ⟨w.heap.size, 1, none⟩ = false := (hb2.frozen (p := ⟨w.heap.size, 1, none⟩) (by first | omega | (simp; done) | (simp; omega))).trans (e11); have hz2 : w.heap.size < w2.heap.size := (by first | omega | (simp; done) | (simp; omega)))))
  exact bodyPost_ret (v := .tuple #[.agg #[.int .i64 (midX l), .int .i64 (midY l)], .bool true]) (by simp [results, Try.results25, go_sem, *]) rfl ⟨rfl, (by repeat (first | exact Below.refl _ _ | assumption | refine Below.drew ?_ | refine below_drewN ?_ _ | refine Below.alloc ?_ (by first | omega | (simp; done) | (simp; omega)) _ | refine Below.setCell ?_ (by first | omega | (simp; done) | (simp; omega)) _ | refine Below.trans ?_ (Below.mono (by assumption) (by first | omega | (simp; done) | (simp; omega)))))⟩

set_option maxHeartbeats 1000000 in
theorem mid_no (a : Option Addr) (cap : Nat) (l : List (Int × Int)) (hl : l.length ≤ 1048576) {w : World} (ha : PairsAt w a l) (hv : chOk l = false) :
    Calls Try.prog 26 #[.slice a l.length cap] w fun e w' => e = .returned (.tuple #[.agg #[.int .i64 0, .int .i64 0], .bool false]) ∧ Below w.heap.size w w' := by
  have HS := Lib.hid (fun (W : World) (hb : Below w.heap.size w W) => isChart_any a cap l hl (ha.below hb))
  have HV := Lib.hid hv
  clear hv
  go_enter Try.func26, Try.ntmps26
  go_wp2_with (first | (go_at_call 53; (refine (HS.out _ (by repeat (first | exact Below.refl _ _ | assumption | refine Below.drew ?_ | refine below_drewN ?_ _ | refine Below.alloc ?_ (by first | omega | (simp; done) | (simp; omega)) _ | refine Below.setCell ?_ (by first | omega | (simp; done) | (simp; omega)) _ | refine Below.trans ?_ (Below.mono (by assumption) (by first | omega | (simp; done) | (simp; omega)))))).mono ?_; rw [HV.out]; rintro e w1 ⟨rfl, hb1⟩; have hs1 := hb1.size; (try simp at hs1); have d10 : w1.cell? ⟨w.heap.size, 0, none⟩ = some (.int .i64 0) := (hb1.cell (p := ⟨w.heap.size, 0, none⟩) (by first | omega | (simp; done) | (simp; omega))).trans (by go_simp); have e10 : w1.frozen? ⟨w.heap.size, 0, none⟩ = false := (hb1.frozen (p := ⟨w.heap.size, 0, none⟩) (by first | omega | (simp; done) | (simp; omega))).trans (by go_simp); have d11 : w1.cell? ⟨w.heap.size, 1, none⟩ = some (.int .i64 0) := (hb1.cell (p := ⟨w.heap.size, 1, none⟩) (by first | omega | (simp; done) | (simp; omega))).trans (by go_simp); have e11 : w1.frozen? ⟨w.heap.size, 1, none⟩ = false := (hb1.frozen (p := ⟨w.heap.size, 1, none⟩) (by first | omega | (simp; done) | (simp; omega))).trans (by go_simp); have hz1 : w.heap.size < w1.heap.size := (by first | omega | (simp; done) | (simp; omega)))))
  exact bodyPost_ret (v := .tuple #[.agg #[.int .i64 0, .int .i64 0], .bool false]) (by simp [results, Try.results26, go_sem, *]) rfl ⟨rfl, (by repeat (first | exact Below.refl _ _ | assumption | refine Below.drew ?_ | refine below_drewN ?_ _ | refine Below.alloc ?_ (by first | omega | (simp; done) | (simp; omega)) _ | refine Below.setCell ?_ (by first | omega | (simp; done) | (simp; omega)) _ | refine Below.trans ?_ (Below.mono (by assumption) (by first | omega | (simp; done) | (simp; omega)))))⟩
set_option maxHeartbeats 2000000 in
theorem mid_yes (a : Option Addr) (cap : Nat) (l : List (Int × Int)) (hl : l.length ≤ 1048576) {w : World} (ha : PairsAt w a l) (hv : chOk l = true) :
    Calls Try.prog 26 #[.slice a l.length cap] w fun e w' => e = .returned (.tuple #[.agg #[.int .i64 (midX l), .int .i64 (midY l)], .bool true]) ∧ Below w.heap.size w w' := by
  have HS := Lib.hid (fun (W : World) (hb : Below w.heap.size w W) => isChart_any a cap l hl (ha.below hb))
  obtain ⟨p1, p2, p3, p4⟩ := chOk_parts hv
  have HV := Lib.hid hv
  have HON := Lib.hid p1
  have HA := Lib.hid ha
  clear hv p1 p2 ha
  go_enter Try.func26, Try.ntmps26
  go_wp2_with (first | (go_at_call 53; (refine (HS.out _ (by repeat (first | exact Below.refl _ _ | assumption | refine Below.drew ?_ | refine below_drewN ?_ _ | refine Below.alloc ?_ (by first | omega | (simp; done) | (simp; omega)) _ | refine Below.setCell ?_ (by first | omega | (simp; done) | (simp; omega)) _ | refine Below.trans ?_ (Below.mono (by assumption) (by first | omega | (simp; done) | (simp; omega)))))).mono ?_; rw [HV.out]; rintro e w1 ⟨rfl, hb1⟩; have hs1 := hb1.size; (try simp at hs1); have d10 : w1.cell? ⟨w.heap.size, 0, none⟩ = some (.int .i64 0) := (hb1.cell (p := ⟨w.heap.size, 0, none⟩) (by first | omega | (simp; done) | (simp; omega))).trans (by go_simp); have e10 : w1.frozen? ⟨w.heap.size, 0, none⟩ = false := (hb1.frozen (p := ⟨w.heap.size, 0, none⟩) (by first | omega | (simp; done) | (simp; omega))).trans (by go_simp); have d11 : w1.cell? ⟨w.heap.size, 1, none⟩ = some (.int .i64 0) := (hb1.cell (p := ⟨w.heap.size, 1, none⟩) (by first | omega | (simp; done) | (simp; omega))).trans (by go_simp); have e11 : w1.frozen? ⟨w.heap.size, 1, none⟩ = false := (hb1.frozen (p := ⟨w.heap.size, 1, none⟩) (by first | omega | (simp; done) | (simp; omega))).trans (by go_simp); have hz1 : w.heap.size < w1.heap.size := (by first | omega | (simp; done) | (simp; omega)))))
  have hbw : Below w.heap.size w w1 := (by repeat (first | exact Below.refl _ _ | assumption | refine Below.drew ?_ | refine below_drewN ?_ _ | refine Below.alloc ?_ (by first | omega | (simp; done) | (simp; omega)) _ | refine Below.setCell ?_ (by first | omega | (simp; done) | (simp; omega)) _ | refine Below.trans ?_ (Below.mono (by assumption) (by first | omega | (simp; done) | (simp; omega)))))
  clear hb1
  go_loopw [4, 5, 14] (fun xs ys i wr => ∃ (k : Nat), k ≤ l.length ∧ i = .int .i64 k ∧ xs = .int .i64 (sumB (sx l) k) ∧ ys = .int .i64 (sumB (sy l) k) ∧ Below w.heap.size w wr ∧ wr.cell? ⟨w.heap.size, 0, none⟩ = some (.int .i64 0) ∧ wr.cell? ⟨w.heap.size, 1, none⟩ = some (.int .i64 0) ∧ wr.frozen? ⟨w.heap.size, 0, none⟩ = false ∧ wr.frozen? ⟨w.heap.size, 1, none⟩ = false ∧ w.heap.size < wr.heap.size) (fun _ _ i _ => l.length - (intOf i).toNat)
  case atStart => exact ⟨0, Nat.zero_le _, rfl, rfl, rfl, hbw, d10, d11, e10, e11, hz1⟩
  case round =>
    clear hbw d10 d11 e10 e11 hz1 hs1 
    obtain ⟨k, hk, rfl, rfl, rfl, hbr, z0, z1, f0, f1, hws⟩ := hrel
    have hsr := hbr.size
    obtain ⟨⟨s1, s2⟩, s3, s4⟩ := sums_bound HON.out k hk
    by_cases hlt : k < l.length
    · obtain ⟨b, off, rfl, c0, c1⟩ := (HA.out.below hbr) k hlt
      have hst1 : sumB (sx l) (k + 1) = sumB (sx l) k + sx l k := rfl
      have hst2 : sumB (sy l) (k + 1) = sumB (sy l) k + sy l k := rfl
      obtain ⟨⟨o1, o2⟩, o3, o4⟩ := onField_iff.1 (allOn_at HON.out k hlt)
      have HS1 := Lib.hid hst1
      have HS2 := Lib.hid hst2
      clear hst1 hst2
      obtain ⟨X, hX⟩ : ∃ X, X = sumB (sx l) k := ⟨_, rfl⟩
      obtain ⟨Y, hY⟩ : ∃ Y, Y = sumB (sy l) k := ⟨_, rfl⟩
      rw [← hX] at HS1 s1 s2 ⊢
      rw [← hY] at HS2 s3 s4 ⊢
      clear hX hY
      have v1 : IntKind.i64.wrap (X + sx l k) = X + sx l k := IntWalk.i64_in _ (by omega)
      have v2 : IntKind.i64.wrap (Y + sy l k) = Y + sy l k := IntWalk.i64_in _ (by omega)
      go_wp2
      go_roundw
      case rel => exact ⟨k + 1, by omega, by go_num, by rw [HS1.out], by rw [HS2.out], (by repeat (first | exact Below.refl _ _ | assumption | refine Below.drew ?_ | refine below_drewN ?_ _ | refine Below.alloc ?_ (by first | omega | (simp; done) | (simp; omega)) _ | refine Below.setCell ?_ (by first | omega | (simp; done) | (simp; omega)) _ | refine Below.trans ?_ (Below.mono (by assumption) (by first | omega | (simp; done) | (simp; omega))))), by go_simp, by go_simp, by go_simp, by go_simp, (by first | omega | (simp; done) | (simp; omega))⟩
      case measure => simp [intOf]; omega
    · obtain rfl : k = l.length := by omega
      have K1 := Lib.hid (fun W => roundedQuotient_any (sumB (sx l) l.length) (l.length : Int) (by omega) (by omega) (by omega) (by omega) W)
      have K2 := Lib.hid (fun W => roundedQuotient_any (sumB (sy l) l.length) (l.length : Int) (by omega) (by omega) (by omega) (by omega) W)
      have q1 : rnd (sumB (sx l) l.length) (l.length : Int) = midX l := rfl
      have q2 : rnd (sumB (sy l) l.length) (l.length : Int) = midY l := rfl
      rw [q1] at K1
      rw [q2] at K2
      clear q1 q2
      go_wp2_with (first | (go_at_call 54; ((with_reducible refine (K1.out _).mono ?_); rintro e w' ⟨rfl, rfl⟩)) | (go_at_call 54; ((with_reducible refine (K2.out _).mono ?_); rintro e w' ⟨rfl, rfl⟩)))
      exact bodyPost_ret (v := .tuple #[.agg #[.int .i64 (midX l), .int .i64 (midY l)], .bool true]) (by simp [results, Try.results26, go_sem, *]) rfl ⟨rfl, (by repeat (first | exact Below.refl _ _ | assumption | refine Below.drew ?_ | refine below_drewN ?_ _ | refine Below.alloc ?_ (by first | omega | (simp; done) | (simp; omega)) _ | refine Below.setCell ?_ (by first | omega | (simp; done) | (simp; omega)) _ | refine Below.trans ?_ (Below.mono (by assumption) (by first | omega | (simp; done) | (simp; omega)))))⟩

theorem specMid_any (a : Option Addr) (cap : Nat) (l : List (Int × Int)) (hl : l.length ≤ 1048576) (hc : l.length ≤ cap) {w : World} (ha : PairsAt w a l) :
    Calls Try.prog 25 #[.slice a l.length cap] w fun e w' => e = .returned (.tuple #[.agg #[.int .i64 (guardI (chOk l) (midX l)), .int .i64 (guardI (chOk l) (midY l))], .bool (chOk l)]) ∧ Below w.heap.size w w' := by
  cases hv : chOk l
  · exact specMid_no a cap l hl hc ha hv
  · exact specMid_yes a cap l hl hc ha hv

theorem mid_any (a : Option Addr) (cap : Nat) (l : List (Int × Int)) (hl : l.length ≤ 1048576) {w : World} (ha : PairsAt w a l) :
    Calls Try.prog 26 #[.slice a l.length cap] w fun e w' => e = .returned (.tuple #[.agg #[.int .i64 (guardI (chOk l) (midX l)), .int .i64 (guardI (chOk l) (midY l))], .bool (chOk l)]) ∧ Below w.heap.size w w' := by
  cases hv : chOk l
  · exact mid_no a cap l hl ha hv
  · exact mid_yes a cap l hl ha hv

end Go.Proofs.Ytppnomflmacpkaa
