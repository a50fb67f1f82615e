/- The program's fractions: lowest terms, comparison. Conditions: those written in each theorem. -/
import Derived.Test.YtjojjmmdgldcbaaApGcd
import Derived.Deep.RegionHeld3
import Derived.Deep.DrawnRows
import Derived.IntWalk
import Derived.StillTailTactics
namespace Go.Proofs.Ytjojjmmdgldcbaa
open Go.RowKit


attribute [local go_sem ↓] Go.wp_at_zero Go.wp_at_succ

set_option maxHeartbeats 1000000 in
theorem lowestF_any (A B : Nat) (hA : A ≤ 1000000000000000) (hB : B ≤ 1000000000000000) (hB0 : 0 < B) (w : World) :
    Calls Try.prog 61 #[.agg #[.int .i64 (A : Int), .int .i64 (B : Int)]] w fun e w' => e = .returned (.tuple #[.int .i64 (lowN A B), .int .i64 (lowD A B)]) ∧ Below w.heap.size w w' := by
  obtain ⟨q1, q2, q3, q4, q5, q6, q7⟩ := nadd
  have HP := Lib.hid (fun W => lowestW_any A B hA hB hB0 W)
  obtain ⟨P, hP⟩ : ∃ P, P = lowN A B := ⟨_, rfl⟩
  obtain ⟨Q, hQ⟩ : ∃ Q, Q = lowD A B := ⟨_, rfl⟩
  rw [← hP, ← hQ] at HP
  rw [← hP, ← hQ]
  clear hP hQ hA hB hB0
  all_goals
    go_enter Try.func61, Try.ntmps61
    go_wp2_with (first | (go_at_call 92; ((with_reducible refine (HP.out _).mono ?_); rintro e w1 ⟨rfl, hb1⟩; have hs1 := hb1.size; (try simp at hs1); (first | have hk4 := call_facts hl3 hb1 (by first | omega | (simp; done) | (simp; omega)) | skip); (first | have hk3 := call_facts hl2 hb1 (by first | omega | (simp; done) | (simp; omega)) | skip); (first | have hk2 := call_facts hl1 hb1 (by first | omega | (simp; done) | (simp; omega)) | skip); have hk1 := call_facts (fun b h => h) hb1 (Nat.le_refl _); (first | have hl4 := hk4.1 | skip); (first | have hl3 := hk3.1 | skip); (first | have hl2 := hk2.1 | skip); have hl1 := hk1.1)))
    first | exact bodyPost_ret (v := .tuple #[.int .i64 P, .int .i64 Q]) (by simp [results, Try.results61, go_sem, *]) rfl ⟨rfl, (by repeat (first | exact Below.refl _ _ | assumption | refine Below.drew ?_ | refine below_drewN ?_ _ | refine Below.alloc ?_ (by first | omega | (simp; done) | (simp; omega)) _ | refine Below.setCell ?_ (by first | omega | (simp; done) | (simp; omega)) _ | refine Below.trans ?_ (Below.mono (by assumption) (by first | omega | (simp; done) | (simp; omega)))))⟩

theorem quo_facts {a b : Int} (a0 : 0 ≤ a) (a1 : a ≤ 1000000000000000) (b0 : 0 < b) : ∃ u x : Int, u = a / b ∧ x = a % b ∧ wrap64 (a.tdiv b) = u ∧ IntKind.i64.wrap (a.tdiv b) = u ∧ wrap64 (a / b) = u ∧ IntKind.i64.wrap (a / b) = u ∧ a.tmod b = x ∧ a % b = x ∧ (b == 0) = false ∧ ¬ b = 0 ∧ 0 ≤ x ∧ x < b := by
  have h1 : a.tdiv b = a / b := Int.tdiv_eq_ediv_of_nonneg a0
  have h2 : a.tmod b = a % b := Int.tmod_eq_emod_of_nonneg a0
  have h3 : a / b ≤ a := Int.ediv_le_self _ a0
  have h4 : 0 ≤ a / b := Int.ediv_nonneg a0 (by omega)
  have h5 := Int.emod_nonneg a (show b ≠ 0 by omega)
  have h6 := Int.emod_lt_of_pos a b0
  obtain ⟨u, hu⟩ : ∃ u, u = a / b := ⟨_, rfl⟩
  obtain ⟨x, hx⟩ : ∃ x, x = a % b := ⟨_, rfl⟩
  rw [← hu] at h1 h3 h4
  rw [← hx] at h2 h5 h6
  have z2 : ¬ b = 0 := by omega
  refine ⟨u, x, hu, hx, ?_, ?_, ?_, ?_, h2, hx.symm, by simpa using z2, z2, h5, h6⟩
  · rw [h1]; exact IntWalk.wrap64_in _ ⟨by omega, by omega⟩
  · rw [h1]; exact IntWalk.i64_in _ (by omega)
  · rw [← hu]; exact IntWalk.wrap64_in _ ⟨by omega, by omega⟩
  · rw [← hu]; exact IntWalk.i64_in _ (by omega)

set_option maxHeartbeats 2000000 in
theorem below_whole (a b c d : Int) (a0 : 0 ≤ a) (a1 : a ≤ 1000000000000000) (b0 : 0 < b) (b1 : b ≤ 10000000) (c0 : 0 ≤ c) (c1 : c ≤ 1000000000000000) (d0 : 0 < d) (d1 : d ≤ 10000000) (hne : ¬ a / b = c / d) (w : World) :
    Calls Try.prog 80 #[.agg #[.int .i64 a, .int .i64 b], .agg #[.int .i64 c, .int .i64 d]] w fun e w' => e = .returned (.bool (fLt a b c d)) ∧ Below w.heap.size w w' := by
  obtain ⟨q1, q2, q3, q4, q5, q6, q7⟩ := nadd
  have hf := fLt_parts a0 b0 c0 d0
  rw [hf]
  obtain ⟨u, x, hu, hx, u1, u2, u3, u4, u5, u6, u7, u8, x0, x1⟩ := quo_facts a0 a1 b0
  obtain ⟨v, y, hv, hy, v1, v2, v3, v4, v5, v6, v7, v8, y0, y1⟩ := quo_facts c0 c1 d0
  rw [← hu, ← hv] at hne
  rw [← hu, ← hv, ← hx, ← hy]
  rw [if_pos hne]
  obtain ⟨t, ht⟩ : ∃ t, decide (u < v) = t := ⟨_, rfl⟩
  rw [ht]
  have z1 : (u == v) = false := by simpa using hne
  have z2 : (u != v) = true := by simpa using hne
  clear hf hu hv hx hy x0 x1 y0 y1 a0 a1 b0 b1 c0 c1 d0 d1
  all_goals
    go_enter Try.func80, Try.ntmps80
    go_wp2
    go_quiet (fail)
    go_wp2
    first | exact bodyPost_ret (v := .bool t) (by simp [results, Try.results80, go_sem, *]) rfl ⟨rfl, (by repeat (first | exact Below.refl _ _ | assumption | refine Below.drew ?_ | refine below_drewN ?_ _ | refine Below.alloc ?_ (by first | omega | (simp; done) | (simp; omega)) _ | refine Below.setCell ?_ (by first | omega | (simp; done) | (simp; omega)) _ | refine Below.trans ?_ (Below.mono (by assumption) (by first | omega | (simp; done) | (simp; omega)))))⟩

set_option maxHeartbeats 2000000 in
theorem below_rest (a b c d : Int) (a0 : 0 ≤ a) (a1 : a ≤ 1000000000000000) (b0 : 0 < b) (b1 : b ≤ 10000000) (c0 : 0 ≤ c) (c1 : c ≤ 1000000000000000) (d0 : 0 < d) (d1 : d ≤ 10000000) (hne : a / b = c / d) (w : World) :
    Calls Try.prog 80 #[.agg #[.int .i64 a, .int .i64 b], .agg #[.int .i64 c, .int .i64 d]] w fun e w' => e = .returned (.bool (fLt a b c d)) ∧ Below w.heap.size w w' := by
  obtain ⟨q1, q2, q3, q4, q5, q6, q7⟩ := nadd
  have hf := fLt_parts a0 b0 c0 d0
  rw [hf]
  obtain ⟨u, x, hu, hx, u1, u2, u3, u4, u5, u6, u7, u8, x0, x1⟩ := quo_facts a0 a1 b0
  obtain ⟨v, y, hv, hy, v1, v2, v3, v4, v5, v6, v7, v8, y0, y1⟩ := quo_facts c0 c1 d0
  rw [← hu, ← hv] at hne
  rw [← hu, ← hv, ← hx, ← hy]
  rw [if_neg (by simpa using hne)]
  have p1 := mul_bd (a := x) (b := d) (m := 10000000) (n := 10000000) (by omega) (by omega) (by omega) (by omega)
  have p2 := mul_bd (a := y) (b := b) (m := 10000000) (n := 10000000) (by omega) (by omega) (by omega) (by omega)
  obtain ⟨g, hg⟩ : ∃ g, g = x * d := ⟨_, rfl⟩
  obtain ⟨k, hk⟩ : ∃ k, k = y * b := ⟨_, rfl⟩
  have w1' : IntKind.i64.wrap (x * d) = g := by rw [hg]; exact IntWalk.i64_in _ (by omega)
  have w2' : IntKind.i64.wrap (y * b) = k := by rw [hk]; exact IntWalk.i64_in _ (by omega)
  rw [← hg, ← hk]
  obtain ⟨t, ht⟩ : ∃ t, decide (g < k) = t := ⟨_, rfl⟩
  rw [ht]
  subst hne
  clear hf hu hv hx hy x0 x1 y0 y1 a0 a1 b0 b1 c0 c1 d0 d1 p1 p2 hg hk
  all_goals
    go_enter Try.func80, Try.ntmps80
    go_wp2
    go_quiet (fail)
    go_wp2
    go_quiet (fail)
    go_wp2
    first | exact bodyPost_ret (v := .bool t) (by simp [results, Try.results80, go_sem, *]) rfl ⟨rfl, (by repeat (first | exact Below.refl _ _ | assumption | refine Below.drew ?_ | refine below_drewN ?_ _ | refine Below.alloc ?_ (by first | omega | (simp; done) | (simp; omega)) _ | refine Below.setCell ?_ (by first | omega | (simp; done) | (simp; omega)) _ | refine Below.trans ?_ (Below.mono (by assumption) (by first | omega | (simp; done) | (simp; omega)))))⟩

theorem below_any (a b c d : Int) (a0 : 0 ≤ a) (a1 : a ≤ 1000000000000000) (b0 : 0 < b) (b1 : b ≤ 10000000) (c0 : 0 ≤ c) (c1 : c ≤ 1000000000000000) (d0 : 0 < d) (d1 : d ≤ 10000000) (w : World) :
    Calls Try.prog 80 #[.agg #[.int .i64 a, .int .i64 b], .agg #[.int .i64 c, .int .i64 d]] w fun e w' => e = .returned (.bool (fLt a b c d)) ∧ Below w.heap.size w w' := by
  by_cases hne : a / b = c / d
  · exact below_rest a b c d a0 a1 b0 b1 c0 c1 d0 d1 hne w
  · exact below_whole a b c d a0 a1 b0 b1 c0 c1 d0 d1 hne w

set_option maxHeartbeats 1000000 in
theorem closer_any (a b k : Int) (a0 : 0 ≤ a) (a1 : a ≤ 1000000000000000) (b0 : 0 < b) (b1 : b ≤ 10000000) (k0 : 0 ≤ k) (k1 : k ≤ 80) (w : World) :
    Calls Try.prog 71 #[.agg #[.int .i64 a, .int .i64 b], .int .i64 k] w fun e w' => e = .returned (.bool (fLt a b (k * k) 1)) ∧ Below w.heap.size w w' := by
  obtain ⟨q1, q2, q3, q4, q5, q6, q7⟩ := nadd
  have p1 := mul_bd (a := k) (b := k) (m := 80) (n := 80) (by omega) (by omega) (by omega) (by omega)
  have p2 := sq_nonneg k
  have HB := Lib.hid (fun W => below_any a b (k * k) 1 a0 a1 b0 b1 p2 (by omega) (by omega) (by omega) W)
  obtain ⟨t, ht⟩ : ∃ t, t = fLt a b (k * k) 1 := ⟨_, rfl⟩
  rw [← ht] at HB
  rw [← ht]
  obtain ⟨g, hg⟩ : ∃ g, g = k * k := ⟨_, rfl⟩
  have u1 : IntKind.i64.wrap (k * k) = g := by rw [hg]; exact IntWalk.i64_in _ (by omega)
  rw [← hg] at HB
  clear a0 a1 b0 b1 k0 k1 p1 p2 ht hg
  all_goals
    go_enter Try.func71, Try.ntmps71
    go_wp2_with (first | (go_at_call 80; ((with_reducible refine (HB.out _).mono ?_); rintro e w1 ⟨rfl, hb1⟩; have hs1 := hb1.size; (try simp at hs1); (first | have hk4 := call_facts hl3 hb1 (by first | omega | (simp; done) | (simp; omega)) | skip); (first | have hk3 := call_facts hl2 hb1 (by first | omega | (simp; done) | (simp; omega)) | skip); (first | have hk2 := call_facts hl1 hb1 (by first | omega | (simp; done) | (simp; omega)) | skip); have hk1 := call_facts (fun b h => h) hb1 (Nat.le_refl _); (first | have hl4 := hk4.1 | skip); (first | have hl3 := hk3.1 | skip); (first | have hl2 := hk2.1 | skip); have hl1 := hk1.1)))
    first | exact bodyPost_ret (v := .bool t) (by simp [results, Try.results71, go_sem, *]) rfl ⟨rfl, (by repeat (first | exact Below.refl _ _ | assumption | refine Below.drew ?_ | refine below_drewN ?_ _ | refine Below.alloc ?_ (by first | omega | (simp; done) | (simp; omega)) _ | refine Below.setCell ?_ (by first | omega | (simp; done) | (simp; omega)) _ | refine Below.trans ?_ (Below.mono (by assumption) (by first | omega | (simp; done) | (simp; omega)))))⟩

end Go.Proofs.Ytjojjmmdgldcbaa
