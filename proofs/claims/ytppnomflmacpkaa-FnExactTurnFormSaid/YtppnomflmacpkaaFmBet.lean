/- Spots between two ones, both sides. Conditions: the bounds written in each theorem. -/
import Derived.Test.YtppnomflmacpkaaFmRnd
import Derived.Deep.RegionHeld3
import Derived.Deep.DrawnRows
import Derived.IntWalk
namespace Go.Proofs.Ytppnomflmacpkaa
open Go.RowKit


attribute [local go_sem ↓] Go.wp_at_zero Go.wp_at_succ

theorem rnd_bound {n d M : Int} (h0 : 0 ≤ M) (h1 : -M ≤ n) (h2 : n ≤ M) (hd : 1 ≤ d) : -M ≤ rnd n d ∧ rnd n d ≤ M := by
  unfold rnd
  have h3 : M ≤ M * d := by have := Int.mul_le_mul_of_nonneg_left hd h0; omega
  refine ⟨Int.le_ediv_of_mul_le (by omega) ?_, ?_⟩
  · have : -M * (2 * d) = -(2 * (M * d)) := by rw [Int.neg_mul, Int.mul_left_comm]
    omega
  · have : (2 * n + d) / (2 * d) < M + 1 := Int.ediv_lt_of_lt_mul (by omega) (by
      have : (M + 1) * (2 * d) = 2 * (M * d) + 2 * d := by rw [Int.add_mul, Int.mul_left_comm, Int.one_mul]
      omega)
    omega
theorem mul_bound {a b A B : Int} (hB : 0 ≤ A) (h1 : -A ≤ a) (h2 : a ≤ A) (h3 : 0 ≤ b) (h4 : b ≤ B) : -(A * B) ≤ a * b ∧ a * b ≤ A * B := by
  have k1 : a * b ≤ A * b := Int.mul_le_mul_of_nonneg_right h2 h3
  have k2 : A * b ≤ A * B := Int.mul_le_mul_of_nonneg_left h4 hB
  have k3 : -A * b ≤ a * b := Int.mul_le_mul_of_nonneg_right h1 h3
  rw [Int.neg_mul] at k3
  omega
/-- One number of a spot between two ones. -/
def bet (a b part whole : Int) : Int := a + rnd ((b - a) * part) whole
theorem bet_bound {a b part whole : Int} (a0 : 0 ≤ a) (a1 : a ≤ 1280) (b0 : 0 ≤ b) (b1 : b ≤ 1280) (p0 : 0 ≤ part) (p1 : part ≤ 1000) (h : 1 ≤ whole) : -1280000 ≤ (b - a) * part ∧ (b - a) * part ≤ 1280000 ∧ -1280000 ≤ rnd ((b - a) * part) whole ∧ rnd ((b - a) * part) whole ≤ 1280000 := by
  obtain ⟨h1, h2⟩ := mul_bound (a := b - a) (b := part) (A := 1280) (B := 1000) (by omega) (by omega) (by omega) p0 p1
  obtain ⟨h3, h4⟩ := rnd_bound (n := (b - a) * part) (d := whole) (M := 1280000) (by omega) (by omega) (by omega) h
  omega

set_option maxHeartbeats 2000000 in
theorem fmBetween_any (x1 y1 x2 y2 p m : Int) (h1 : onField x1 y1 = true) (h2 : onField x2 y2 = true) (p0 : 0 ≤ p) (p1 : p ≤ 1000) (w0 : 1 ≤ m) (w1 : m ≤ 1000) (w : World) :
    Calls Try.prog 42 #[.agg #[.int .i64 x1, .int .i64 y1], .agg #[.int .i64 x2, .int .i64 y2], .int .i64 p, .int .i64 m] w fun e w' => e = .returned (.agg #[.int .i64 (bet x1 x2 p m), .int .i64 (bet y1 y2 p m)]) ∧ Below w.heap.size w w' := by
  obtain ⟨⟨a1, a2⟩, a3, a4⟩ := onField_iff.1 h1
  obtain ⟨⟨b1, b2⟩, b3, b4⟩ := onField_iff.1 h2
  obtain ⟨c1, c2, c3, c4⟩ := bet_bound (a := x1) (b := x2) a1 a2 b1 b2 p0 p1 w0
  obtain ⟨d1, d2, d3, d4⟩ := bet_bound (a := y1) (b := y2) a3 (by omega) b3 (by omega) p0 p1 w0
  clear h1 h2
  have v1 : IntKind.i64.wrap (x2 - x1) = x2 - x1 := IntWalk.i64_in _ (by omega)
  have v2 : IntKind.i64.wrap (y2 - y1) = y2 - y1 := IntWalk.i64_in _ (by omega)
  have v3 : IntKind.i64.wrap ((x2 - x1) * p) = (x2 - x1) * p := IntWalk.i64_in _ (by omega)
  have v4 : IntKind.i64.wrap ((y2 - y1) * p) = (y2 - y1) * p := IntWalk.i64_in _ (by omega)
  have v5 : IntKind.i64.wrap (x1 + rnd ((x2 - x1) * p) m) = x1 + rnd ((x2 - x1) * p) m := IntWalk.i64_in _ (by omega)
  have v6 : IntKind.i64.wrap (y1 + rnd ((y2 - y1) * p) m) = y1 + rnd ((y2 - y1) * p) m := IntWalk.i64_in _ (by omega)
  have k1 := fun W : World => fmRound_any ((x2 - x1) * p) m (by omega) (by omega) w0 (by omega) W
  have k2 := fun W : World => fmRound_any ((y2 - y1) * p) m (by omega) (by omega) w0 (by omega) W
  have K1 := Lib.hid k1
  have K2 := Lib.hid k2
  clear k1 k2
  all_goals
    go_enter Try.func42, Try.ntmps42
    go_wp2_with fail
    go_region_held3 (fun w' => w'.cell? ⟨w.heap.size, 0, none⟩ = some (.int .i64 x1) ∧ w'.cell? ⟨w.heap.size, 1, none⟩ = some (.int .i64 y1) ∧ w'.cell? ⟨w.heap.size + 1, 0, none⟩ = some (.int .i64 x2) ∧ w'.cell? ⟨w.heap.size + 1, 1, none⟩ = some (.int .i64 y2)) (refine ⟨?_, ?_, ?_, ?_⟩ <;> first | (go_keep; done) | (simp [*, World.cell?_alloc_past, World.cell?_setCell_far]; done) | (simp [*, World.cell?_alloc_past, World.cell?_alloc_at, World.cell?_setCell_far]; done) | (go_simp; done)) (first | (go_at_call 55; ((with_reducible refine (K1.out _).mono ?_); rintro e w' ⟨rfl, rfl⟩)) | (go_at_call 55; ((with_reducible refine (K2.out _).mono ?_); rintro e w' ⟨rfl, rfl⟩)))
    all_goals (go_wp2_with fail; exact bodyPost_ret (v := .agg #[.int .i64 (bet x1 x2 p m), .int .i64 (bet y1 y2 p m)]) (by simp [results, Try.results42, go_sem, bet, *]) rfl ⟨rfl, (by repeat (first | exact Below.refl _ _ | assumption | refine Below.drew ?_ | refine below_drewN ?_ _ | refine Below.alloc ?_ (by first | omega | (simp; done) | (simp; omega)) _ | refine Below.setCell ?_ (by first | omega | (simp; done) | (simp; omega)) _ | refine Below.trans ?_ (Below.mono (by assumption) (by first | omega | (simp; done) | (simp; omega)))))⟩)

set_option maxHeartbeats 2000000 in
theorem partOfWay_any (x1 y1 x2 y2 p m : Int) (h1 : onField x1 y1 = true) (h2 : onField x2 y2 = true) (p0 : 0 ≤ p) (p1 : p ≤ 1000) (w0 : 1 ≤ m) (w1 : m ≤ 1000) (w : World) :
    Calls Try.prog 64 #[.agg #[.int .i64 x1, .int .i64 y1], .agg #[.int .i64 x2, .int .i64 y2], .int .i64 p, .int .i64 m] w fun e w' => e = .returned (.agg #[.int .i64 (bet x1 x2 p m), .int .i64 (bet y1 y2 p m)]) ∧ Below w.heap.size w w' := by
  obtain ⟨⟨a1, a2⟩, a3, a4⟩ := onField_iff.1 h1
  obtain ⟨⟨b1, b2⟩, b3, b4⟩ := onField_iff.1 h2
  obtain ⟨c1, c2, c3, c4⟩ := bet_bound (a := x1) (b := x2) a1 a2 b1 b2 p0 p1 w0
  obtain ⟨d1, d2, d3, d4⟩ := bet_bound (a := y1) (b := y2) a3 (by omega) b3 (by omega) p0 p1 w0
  clear h1 h2
  have C1 : p * (x2 - x1) = (x2 - x1) * p := Int.mul_comm _ _
  have C2 : p * (y2 - y1) = (y2 - y1) * p := Int.mul_comm _ _
  have v1 : IntKind.i64.wrap (x2 - x1) = x2 - x1 := IntWalk.i64_in _ (by omega)
  have v2 : IntKind.i64.wrap (y2 - y1) = y2 - y1 := IntWalk.i64_in _ (by omega)
  have v3 : IntKind.i64.wrap (p * (x2 - x1)) = (x2 - x1) * p := by rw [C1]; exact IntWalk.i64_in _ (by omega)
  have v4 : IntKind.i64.wrap (p * (y2 - y1)) = (y2 - y1) * p := by rw [C2]; exact IntWalk.i64_in _ (by omega)
  have v5 : IntKind.i64.wrap (x1 + rnd ((x2 - x1) * p) m) = x1 + rnd ((x2 - x1) * p) m := IntWalk.i64_in _ (by omega)
  have v6 : IntKind.i64.wrap (y1 + rnd ((y2 - y1) * p) m) = y1 + rnd ((y2 - y1) * p) m := IntWalk.i64_in _ (by omega)
  have k1 := fun W : World => roundedQuotient_any ((x2 - x1) * p) m (by omega) (by omega) w0 (by omega) W
  have k2 := fun W : World => roundedQuotient_any ((y2 - y1) * p) m (by omega) (by omega) w0 (by omega) W
  have K1 := Lib.hid k1
  have K2 := Lib.hid k2
  clear k1 k2
  clear C1 C2
  all_goals
    go_enter Try.func64, Try.ntmps64
    go_wp2_with (first | (go_at_call 54; ((with_reducible refine (K1.out _).mono ?_); rintro e w' ⟨rfl, rfl⟩)) | (go_at_call 54; ((with_reducible refine (K2.out _).mono ?_); rintro e w' ⟨rfl, rfl⟩)))
    exact bodyPost_ret (v := .agg #[.int .i64 (bet x1 x2 p m), .int .i64 (bet y1 y2 p m)]) (by simp [results, Try.results64, go_sem, bet, *]) rfl ⟨rfl, (by repeat (first | exact Below.refl _ _ | assumption | refine Below.drew ?_ | refine below_drewN ?_ _ | refine Below.alloc ?_ (by first | omega | (simp; done) | (simp; omega)) _ | refine Below.setCell ?_ (by first | omega | (simp; done) | (simp; omega)) _ | refine Below.trans ?_ (Below.mono (by assumption) (by first | omega | (simp; done) | (simp; omega)))))⟩

end Go.Proofs.Ytppnomflmacpkaa
