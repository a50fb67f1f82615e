/- Places of moves. Conditions: those written in each theorem. -/
import Derived.Test.YtjojjmmdgldcbaaMv
import Derived.Test.YtjojjmmdgldcbaaFmRnd
import Derived.Deep.RegionHeld3
import Derived.Deep.DrawnRows
import Derived.IntWalk
namespace Go.Proofs.Ytjojjmmdgldcbaa
open Go.RowKit


attribute [local go_sem ↓] Go.wp_at_zero Go.wp_at_succ

/-- A coordinate after a count, times the counts. -/
def px (a b n k : Int) : Int := a * n + (b - a) * k
theorem px_mul (q a b n : Int) : px a b n q = a * (n - q) + b * q := by
  unfold px
  rw [Int.sub_mul, Int.mul_sub]
  omega
theorem px_bound {a b n k M : Int} (a0 : 0 ≤ a) (a1 : a ≤ M) (b0 : 0 ≤ b) (b1 : b ≤ M) (k0 : 0 ≤ k) (k1 : k ≤ n) : 0 ≤ px a b n k ∧ px a b n k ≤ M * n := by
  rw [px_mul]
  have e1 : 0 ≤ a * (n - k) := Int.mul_nonneg a0 (by omega)
  have e2 : 0 ≤ b * k := Int.mul_nonneg b0 k0
  have e3 : a * (n - k) ≤ M * (n - k) := Int.mul_le_mul_of_nonneg_right a1 (by omega)
  have e4 : b * k ≤ M * k := Int.mul_le_mul_of_nonneg_right b1 k0
  have e5 : M * (n - k) = M * n - M * k := Int.mul_sub M n k
  omega
theorem part_bound {a n : Int} (a0 : 0 ≤ a) (a1 : a ≤ 1280) (n0 : 0 ≤ n) (n1 : n ≤ 64) : 0 ≤ a * n ∧ a * n ≤ 81920 := by
  have e1 : a * n ≤ 1280 * n := Int.mul_le_mul_of_nonneg_right a1 n0
  have e2 := Int.mul_nonneg a0 n0
  omega
theorem way_bound {d k : Int} (d0 : -1280 ≤ d) (d1 : d ≤ 1280) (k0 : 0 ≤ k) (k1 : k ≤ 64) : -81920 ≤ d * k ∧ d * k ≤ 81920 := by
  have e1 : d * k ≤ 1280 * k := Int.mul_le_mul_of_nonneg_right d1 k0
  have e2 : -1280 * k ≤ d * k := Int.mul_le_mul_of_nonneg_right d0 k0
  omega
/-- The places of a valid move, at a count of its own. -/
theorem mv_facts {x1 y1 x2 y2 n k : Int} (h : isMv x1 y1 x2 y2 n = true) (hk0 : 0 ≤ k) (hk1 : k ≤ n) :
    (1 ≤ n ∧ n ≤ 64) ∧ (0 ≤ px x1 x2 n k ∧ px x1 x2 n k ≤ 81920) ∧ (0 ≤ px y1 y2 n k ∧ px y1 y2 n k ≤ 81920) := by
  obtain ⟨h1, h2, h3, h4⟩ := isMv_iff.1 h
  obtain ⟨⟨a1, a2⟩, a3, a4⟩ := onField_iff.1 h1
  obtain ⟨⟨b1, b2⟩, b3, b4⟩ := onField_iff.1 h2
  have c1 := px_bound (n := n) a1 a2 b1 b2 hk0 hk1
  have c2 := px_bound (n := n) a3 a4 b3 b4 hk0 hk1
  omega
/-- What the places are computed from. -/
theorem mv_parts {x1 y1 x2 y2 n k : Int} (h : isMv x1 y1 x2 y2 n = true) (hk0 : 0 ≤ k) (hk1 : k ≤ n) :
    ∃ a b d e p q X Y : Int, X = px x1 x2 n k ∧ Y = px y1 y2 n k ∧ IntKind.i64.wrap (x1 * n) = a ∧ IntKind.i64.wrap (x2 - x1) = d ∧ IntKind.i64.wrap (d * k) = p ∧ IntKind.i64.wrap (k * d) = p ∧ IntKind.i64.wrap (a + p) = X ∧
      IntKind.i64.wrap (y1 * n) = b ∧ IntKind.i64.wrap (y2 - y1) = e ∧ IntKind.i64.wrap (e * k) = q ∧ IntKind.i64.wrap (k * e) = q ∧ IntKind.i64.wrap (b + q) = Y := by
  obtain ⟨h1, h2, h3, h4⟩ := isMv_iff.1 h
  obtain ⟨⟨a1, a2⟩, a3, a4⟩ := onField_iff.1 h1
  obtain ⟨⟨b1, b2⟩, b3, b4⟩ := onField_iff.1 h2
  have c1 := part_bound (n := n) a1 a2 (by omega) h4
  have c2 := part_bound (n := n) a3 (by omega) (by omega) h4
  have c3 := way_bound (d := x2 - x1) (k := k) (by omega) (by omega) hk0 (by omega)
  have c4 := way_bound (d := y2 - y1) (k := k) (by omega) (by omega) hk0 (by omega)
  refine ⟨x1 * n, y1 * n, x2 - x1, y2 - y1, (x2 - x1) * k, (y2 - y1) * k, _, _, rfl, rfl, IntWalk.i64_in _ (by omega), IntWalk.i64_in _ (by omega), IntWalk.i64_in _ (by omega), ?_, IntWalk.i64_in _ (by omega), IntWalk.i64_in _ (by omega), IntWalk.i64_in _ (by omega), IntWalk.i64_in _ (by omega), ?_, IntWalk.i64_in _ (by omega)⟩
  · rw [Int.mul_comm]; exact IntWalk.i64_in _ (by omega)
  · rw [Int.mul_comm]; exact IntWalk.i64_in _ (by omega)

set_option maxHeartbeats 2000000 in
theorem mvAt_any (x1 y1 x2 y2 n k : Int) (h : isMv x1 y1 x2 y2 n = true) (hk0 : 0 ≤ k) (hk1 : k ≤ n) (w : World) :
    Calls Try.prog 55 #[.agg #[.int .i64 x1, .int .i64 y1, .int .i64 x2, .int .i64 y2, .int .i64 n], .int .i64 k] w fun e w' => e = .returned (.tuple #[.int .i64 (px x1 x2 n k), .int .i64 (px y1 y2 n k)]) ∧ Below w.heap.size w w' := by
  obtain ⟨a, b, d, e', p, q, X, Y, hX, hY, v1, v2, v3, v4, v5, v6, v7, v8, v9, v10⟩ := mv_parts h hk0 hk1
  rw [← hX, ← hY]
  clear h hk0 hk1 hX hY
  all_goals
    go_enter Try.func55, Try.ntmps55
    go_wp2
    go_quiet (fail)
    go_wp2
    first | exact bodyPost_ret (v := .tuple #[.int .i64 X, .int .i64 Y]) (by simp [results, Try.results55, go_sem, *]) rfl ⟨rfl, (by repeat (first | exact Below.refl _ _ | assumption | refine Below.drew ?_ | refine below_drewN ?_ _ | refine Below.alloc ?_ (by first | omega | (simp; done) | (simp; omega)) _ | refine Below.setCell ?_ (by first | omega | (simp; done) | (simp; omega)) _ | refine Below.trans ?_ (Below.mono (by assumption) (by first | omega | (simp; done) | (simp; omega)))))⟩

/-- A valid move and a count of its own. -/
def plOk (x1 y1 x2 y2 n k : Int) : Bool := isMv x1 y1 x2 y2 n && inB 0 k n
theorem plOk_no {x1 y1 x2 y2 n k : Int} (h : isMv x1 y1 x2 y2 n = false) : plOk x1 y1 x2 y2 n k = false := by simp [plOk, h]
theorem plOk_yes {x1 y1 x2 y2 n k : Int} {c : Bool} (h : isMv x1 y1 x2 y2 n = true) (h3 : inB 0 k n = c) : plOk x1 y1 x2 y2 n k = c := by simp [plOk, h, h3]
theorem plOk_iff {x1 y1 x2 y2 n k : Int} : plOk x1 y1 x2 y2 n k = true ↔ isMv x1 y1 x2 y2 n = true ∧ 0 ≤ k ∧ k ≤ n := by simp [plOk, inB]

set_option maxHeartbeats 2000000 in
theorem placeAt_any (x1 y1 x2 y2 n k : Int) (w : World) :
    Calls Try.prog 91 #[.agg #[.int .i64 x1, .int .i64 y1, .int .i64 x2, .int .i64 y2, .int .i64 n], .int .i64 k] w fun e w' => e = .returned (.tuple #[.int .i64 (guardI (plOk x1 y1 x2 y2 n k) (px x1 x2 n k)), .int .i64 (guardI (plOk x1 y1 x2 y2 n k) (px y1 y2 n k)), .bool (plOk x1 y1 x2 y2 n k)]) ∧ Below w.heap.size w w' := by
  cases h1 : isMv x1 y1 x2 y2 n
  case' true =>
    cases h2 : inB 0 k n
    case' true =>
      obtain ⟨hk0, hk1⟩ := inB_iff.1 h2
      obtain ⟨a, b, d, e', p, q, X, Y, hX, hY, v1, v2, v3, v4, v5, v6, v7, v8, v9, v10⟩ := mv_parts h1 hk0 hk1
      have e0 := plOk_yes h1 h2
      rw [← hX, ← hY, e0]
      clear hX hY hk0 hk1 e0
    case' false =>
      have e0 := plOk_yes h1 h2
      rw [e0]
      clear e0
  case' false =>
      have e0 := plOk_no (k := k) h1
      rw [e0]
      clear e0
  all_goals
    have HM := Lib.hid (fun W => isMove_any x1 y1 x2 y2 n W)
    rw [h1] at HM
    clear h1
  all_goals
    go_enter Try.func91, Try.ntmps91
    go_wp2_with (first | (go_at_call 90; (refine (HM.out _).mono ?_; rintro e w1 ⟨rfl, hb1⟩; have hs1 := hb1.size; (try simp at hs1); (first | have hk4 := call_facts hl3 hb1 (by simp) | skip); (first | have hk3 := call_facts hl2 hb1 (by simp) | skip); (first | have hk2 := call_facts hl1 hb1 (by simp) | skip); have hk1 := call_facts (fun b h => h) hb1 (Nat.le_refl _); (first | have hl4 := hk4.1 | skip); (first | have hl3 := hk3.1 | skip); (first | have hl2 := hk2.1 | skip); have hl1 := hk1.1)) | (go_at_call 59; (refine (inRange_any _ _ _ _).mono ?_; rintro e w' ⟨rfl, rfl⟩)))
    first | exact bodyPost_ret (v := .tuple #[.int .i64 0, .int .i64 0, .bool false]) (by simp [results, Try.results91, go_sem, *]) rfl ⟨rfl, (by repeat (first | exact Below.refl _ _ | assumption | refine Below.drew ?_ | refine below_drewN ?_ _ | refine Below.alloc ?_ (by first | omega | (simp; done) | (simp; omega)) _ | refine Below.setCell ?_ (by first | omega | (simp; done) | (simp; omega)) _ | refine Below.trans ?_ (Below.mono (by assumption) (by first | omega | (simp; done) | (simp; omega)))))⟩ | exact bodyPost_ret (v := .tuple #[.int .i64 X, .int .i64 Y, .bool true]) (by simp [results, Try.results91, go_sem, *]) rfl ⟨rfl, (by repeat (first | exact Below.refl _ _ | assumption | refine Below.drew ?_ | refine below_drewN ?_ _ | refine Below.alloc ?_ (by first | omega | (simp; done) | (simp; omega)) _ | refine Below.setCell ?_ (by first | omega | (simp; done) | (simp; omega)) _ | refine Below.trans ?_ (Below.mono (by assumption) (by first | omega | (simp; done) | (simp; omega)))))⟩

end Go.Proofs.Ytjojjmmdgldcbaa
