/- Whole roots, both sides. Conditions: the bounds written in each theorem. -/
import Derived.Test.YtjdpbjpeohdoiaaUtil
import Derived.Test.YtjdpbjpeohdoiaaFlt
import Derived.Laws.Externs
import Derived.Laws.FloatArith
import Derived.IntWalk
import Derived.Lib.SliceRun
import Derived.Deep.DrawnRows
namespace Go.Proofs.Ytjdpbjpeohdoiaa
open Go.RowKit


attribute [local go_sem ↓] Go.wp_at_zero Go.wp_at_succ

/-- The greatest number whose square is at most n. -/
def rtN : Nat → Nat
  | 0 => 0
  | n + 1 => if (rtN n + 1) * (rtN n + 1) ≤ n + 1 then rtN n + 1 else rtN n
theorem rtN_spec : ∀ n, rtN n * rtN n ≤ n ∧ n < (rtN n + 1) * (rtN n + 1)
  | 0 => ⟨Nat.le_refl _, by decide⟩
  | n + 1 => by
    obtain ⟨h1, h2⟩ := rtN_spec n
    unfold rtN
    split
    · refine ⟨by assumption, ?_⟩
      have : (rtN n + 1 + 1) * (rtN n + 1 + 1) = (rtN n + 1) * (rtN n + 1) + 2 * rtN n + 3 := by rw [Nat.add_mul, Nat.mul_add]; omega
      omega
    · exact ⟨by omega, by omega⟩
def rt (n : Int) : Int := (rtN n.toNat : Int)
theorem rt_nonneg (n : Int) : 0 ≤ rt n := Int.natCast_nonneg _
theorem rt_spec {n : Int} (h : 0 ≤ n) : rt n * rt n ≤ n ∧ n < (rt n + 1) * (rt n + 1) := by
  obtain ⟨m, rfl⟩ := Int.eq_ofNat_of_zero_le h
  obtain ⟨h1, h2⟩ := rtN_spec m
  unfold rt
  rw [Int.toNat_natCast]
  exact ⟨by exact_mod_cast h1, by exact_mod_cast h2⟩
theorem sq_mono {a b : Int} (h0 : 0 ≤ a) (h : a ≤ b) : a * a ≤ b * b := Int.mul_le_mul h h h0 (by omega)
theorem rt_uniq {r n : Int} (h0 : 0 ≤ r) (h1 : r * r ≤ n) (h2 : n < (r + 1) * (r + 1)) : rt n = r := by
  have hr := Int.mul_nonneg h0 h0
  obtain ⟨k1, k2⟩ := rt_spec (n := n) (by omega)
  have k0 := rt_nonneg n
  rcases Int.lt_trichotomy (rt n) r with h | h | h
  · have := sq_mono (a := rt n + 1) (b := r) (by omega) (by omega)
    omega
  · exact h
  · have := sq_mono (a := r + 1) (b := rt n) (by omega) (by omega)
    omega
theorem rt_le {n : Int} (m : Int) (h0 : 0 ≤ n) (hm : 0 ≤ m) (h : n < (m + 1) * (m + 1)) : rt n ≤ m := by
  obtain ⟨k1, k2⟩ := rt_spec h0
  rcases Int.lt_or_le m (rt n) with e | e
  · have := sq_mono (a := m + 1) (b := rt n) (by omega) (by omega)
    omega
  · exact e
theorem rt_max {n : Int} (h0 : 0 ≤ n) (h : n ≤ 10000000) : 0 ≤ rt n ∧ rt n ≤ 3162 := ⟨rt_nonneg n, rt_le 3162 h0 (by omega) (by omega)⟩
/-- What stepping down comes to. -/
def dn (r n : Int) : Int := if n < r * r then rt n else r
theorem dn_bound {r n : Int} (h0 : 0 ≤ r) (hn : 0 ≤ n) (h9 : n ≤ 10000000) (hr : r ≤ 8192) : 0 ≤ dn r n ∧ dn r n ≤ 8192 ∧ dn r n * dn r n ≤ n := by
  unfold dn
  split
  · have := rt_max hn h9
    exact ⟨this.1, by omega, (rt_spec hn).1⟩
  · exact ⟨h0, hr, by omega⟩
theorem sq_bd {r : Int} (h0 : 0 ≤ r) (h1 : r ≤ 10000) : 0 ≤ r * r ∧ r * r ≤ 100000000 := ⟨Int.mul_nonneg h0 h0, sq_mono h0 h1⟩

set_option maxHeartbeats 1000000 in
theorem arRoot_any (n : Int) (h0 : 0 ≤ n) (h1 : n ≤ 16000000) (w : World) :
    Calls Try.prog 41 #[.int .i64 n] w fun e w' => e = .returned (.int .i64 (rt n)) ∧ w = w' := by
  go_enter Try.func41, Try.ntmps41
  go_wp2
  go_loopw [3, 4] (fun lo hi wr => ∃ a b : Int, lo = .int .i64 a ∧ hi = .int .i64 b ∧ 0 ≤ a ∧ a ≤ b ∧ b ≤ 4000 ∧ a * a ≤ n ∧ n < (b + 1) * (b + 1) ∧ w = wr) (fun lo hi _ => (intOf hi - intOf lo).toNat)
  case atStart => exact ⟨0, 4000, rfl, rfl, by omega, by omega, by omega, by omega, by omega, rfl⟩
  case round =>
    obtain ⟨a, b, rfl, rfl, ha, hab, hb, hq, hq2, rfl⟩ := hrel
    by_cases hlt : a < b
    · have v1 : IntKind.i64.wrap (a + b) = a + b := IntWalk.i64_in _ (by omega)
      have v2 : IntKind.i64.wrap (a + b + 1) = a + b + 1 := IntWalk.i64_in _ (by omega)
      have e1 : (a + b + 1).tdiv 2 = (a + b + 1) / 2 := Int.tdiv_eq_ediv_of_nonneg (by omega)
      obtain ⟨m, hm⟩ : ∃ m, m = (a + b + 1) / 2 := ⟨_, rfl⟩
      have m1 : a < m := by omega
      have m2 : m ≤ b := by omega
      have v3 : wrap64 ((a + b + 1).tdiv 2) = m := by rw [e1, ← hm]; exact IntWalk.wrap64_in _ ⟨by omega, by omega⟩
      have hmm := sq_bd (r := m) (by omega) (by omega)
      obtain ⟨q, hq3⟩ : ∃ q, q = m * m := ⟨_, rfl⟩
      rw [← hq3] at hmm
      have v4 : IntKind.i64.wrap (m * m) = q := by rw [← hq3]; exact IntWalk.i64_in _ (by omega)
      have v5 : IntKind.i64.wrap (m - 1) = m - 1 := IntWalk.i64_in _ (by omega)
      have HQ := Lib.hid (And.intro hq hq2)
      have HQ3 := Lib.hid hq3
      replace hm := hm.symm
      clear hq hq2 hq3 e1
      by_cases hle : q ≤ n
      · go_wp2
        go_roundw
        case rel => exact ⟨m, b, by first | rfl | rw [hm], rfl, by omega, m2, hb, by rw [← HQ3.out]; exact hle, HQ.out.2, by trivial⟩
        case measure => simp [intOf]; omega
      · go_wp2
        go_roundw
        case rel => exact ⟨a, m - 1, rfl, by first | rfl | rw [hm], by omega, by omega, by omega, HQ.out.1, by rw [show m - 1 + 1 = m by omega, ← HQ3.out]; omega, by trivial⟩
        case measure => simp [intOf]; omega
    · obtain rfl : a = b := by omega
      have hr := rt_uniq ha hq hq2
      go_wp2
      go_ret
      exact ⟨rfl, rfl⟩

set_option maxHeartbeats 400000 in
theorem isAbove_any (r n : Int) (h0 : 0 ≤ r) (h1 : r ≤ 10000) (w : World) :
    Calls Try.prog 65 #[.int .i64 r, .int .i64 n] w fun e w' => e = .returned (.bool (decide (n < r * r))) ∧ w = w' := by
  have hq := sq_bd h0 h1
  obtain ⟨q, hq3⟩ : ∃ q, q = r * r := ⟨_, rfl⟩
  rw [← hq3] at hq
  have v4 : IntKind.i64.wrap (r * r) = q := by rw [← hq3]; exact IntWalk.i64_in _ (by omega)
  rw [← hq3]
  clear hq3
  by_cases h : n < q
  all_goals
    go_enter Try.func65, Try.ntmps65
    go_wp2
    go_ret
    exact ⟨by simp [h], rfl⟩

set_option maxHeartbeats 400000 in
theorem isBelow_any (r n : Int) (h0 : 0 ≤ r) (h1 : r ≤ 9000) (w : World) :
    Calls Try.prog 66 #[.int .i64 r, .int .i64 n] w fun e w' => e = .returned (.bool (decide ((r + 1) * (r + 1) ≤ n))) ∧ w = w' := by
  have v1 : IntKind.i64.wrap (r + 1) = r + 1 := IntWalk.i64_in _ (by omega)
  have HA := Lib.hid (isAbove_any (r + 1) n (by omega) (by omega) w)
  obtain ⟨q, hq3⟩ : ∃ q, q = (r + 1) * (r + 1) := ⟨_, rfl⟩
  rw [← hq3] at HA ⊢
  clear hq3
  by_cases h : n < q
  · rw [show decide (n < q) = true by simpa using h] at HA
    go_enter Try.func66, Try.ntmps66
    go_wp2_with (go_at_call 65; (refine HA.out.mono ?_; rintro e w' ⟨rfl, rfl⟩))
    go_ret
    exact ⟨by rw [show decide (q ≤ n) = false by simpa using h]; rfl, rfl⟩
  · rw [show decide (n < q) = false by simpa using h] at HA
    go_enter Try.func66, Try.ntmps66
    go_wp2_with (go_at_call 65; (refine HA.out.mono ?_; rintro e w' ⟨rfl, rfl⟩))
    go_ret
    exact ⟨by rw [show decide (q ≤ n) = true by simp; omega]; rfl, rfl⟩

set_option maxHeartbeats 1000000 in
theorem steppedDown (r n : Int) (h0 : 0 ≤ r) (h1 : r ≤ 8192) (hn : 0 ≤ n) (w : World) :
    Calls Try.prog 64 #[.func (Fn.func 65) #[] #[], .int .i64 r, .int .i64 n, .int .i64 (-1)] w fun e w' => e = .returned (.int .i64 (dn r n)) ∧ w = w' := by
  go_enter Try.func64, Try.ntmps64
  go_wp2
  go_loopw [1] (fun i wr => ∃ j : Int, i = .int .i64 j ∧ 0 ≤ j ∧ j ≤ r ∧ (j = r ∨ n < (j + 1) * (j + 1)) ∧ w = wr) (fun i _ => (intOf i).toNat)
  case atStart => exact ⟨r, rfl, h0, Int.le_refl _, .inl rfl, rfl⟩
  case round =>
    obtain ⟨j, rfl, hj, hjr, hor, rfl⟩ := hrel
    have HOR := Lib.hid hor
    have HA := Lib.hid (isAbove_any j n hj (by omega) w)
    have hz : n < j * j → 1 ≤ j := fun h => by
      rcases Int.lt_or_le j 1 with e | e
      · obtain rfl : j = 0 := by omega
        omega
      · exact e
    clear hor
    by_cases hlt : n < j * j
    · have hj1 := hz hlt
      rw [show decide (n < j * j) = true by simpa using hlt] at HA
      have HLT := Lib.hid hlt
      have v1 : IntKind.i64.wrap (j + -1) = j - 1 := by rw [← Int.sub_eq_add_neg]; exact IntWalk.i64_in _ (by omega)
      clear hlt hz
      go_wp2_with (go_at_call 65; (refine HA.out.mono ?_; rintro e w' ⟨rfl, rfl⟩))
      go_roundw
      case rel => exact ⟨j - 1, rfl, by omega, by omega, .inr (by rw [show j - 1 + 1 = j by omega]; exact HLT.out), by trivial⟩
      case measure => simp [intOf]; omega
    · rw [show decide (n < j * j) = false by simpa using hlt] at HA
      have hd : dn r n = j := by
        unfold dn
        rcases HOR.out with e | e
        · rw [← e, if_neg hlt]
        · split
          · exact rt_uniq hj (by omega) e
          · have := sq_mono (a := j) (b := r) hj hjr
            rcases Int.lt_or_le j r with k | k
            · have := sq_mono (a := j + 1) (b := r) (by omega) (by omega)
              omega
            · omega
      clear hlt hz
      go_wp2_with (go_at_call 65; (refine HA.out.mono ?_; rintro e w' ⟨rfl, rfl⟩))
      go_ret
      exact ⟨by first | rfl | (rw [hd]; rfl), rfl⟩

set_option maxHeartbeats 1000000 in
theorem steppedUp (r n : Int) (h0 : 0 ≤ r) (h1 : r * r ≤ n) (h9 : n ≤ 10000000) (w : World) :
    Calls Try.prog 64 #[.func (Fn.func 66) #[] #[], .int .i64 r, .int .i64 n, .int .i64 1] w fun e w' => e = .returned (.int .i64 (rt n)) ∧ w = w' := by
  go_enter Try.func64, Try.ntmps64
  go_wp2
  go_loopw [1] (fun i wr => ∃ j : Int, i = .int .i64 j ∧ 0 ≤ j ∧ j * j ≤ n ∧ w = wr) (fun i _ => (4000 - intOf i).toNat)
  case atStart => exact ⟨r, rfl, h0, h1, rfl⟩
  case round =>
    obtain ⟨j, rfl, hj, hjq, rfl⟩ := hrel
    have hj9 : j ≤ 3163 := by
      rcases Int.lt_or_le 3163 j with e | e
      · have := sq_mono (a := 3164) (b := j) (by omega) (by omega)
        omega
      · exact e
    have HA := Lib.hid (isBelow_any j n hj (by omega) w)
    have HJ := Lib.hid hjq
    clear hjq h1
    by_cases hle : (j + 1) * (j + 1) ≤ n
    · rw [show decide ((j + 1) * (j + 1) ≤ n) = true by simpa using hle] at HA
      have HL := Lib.hid hle
      have v1 : IntKind.i64.wrap (j + 1) = j + 1 := IntWalk.i64_in _ (by omega)
      clear hle
      go_wp2_with (go_at_call 66; (refine HA.out.mono ?_; rintro e w' ⟨rfl, rfl⟩))
      go_roundw
      case rel => exact ⟨j + 1, rfl, by omega, HL.out, by trivial⟩
      case measure => simp [intOf]; omega
    · rw [show decide ((j + 1) * (j + 1) ≤ n) = false by simpa using hle] at HA
      have hr := rt_uniq hj HJ.out (by omega)
      clear hle
      go_wp2_with (go_at_call 66; (refine HA.out.mono ?_; rintro e w' ⟨rfl, rfl⟩))
      go_ret
      exact ⟨by first | rfl | (rw [hr]; rfl), rfl⟩

theorem mathsqrt_run (x r : Nat) (h : FloatKind.f64.format.sqrt x = some r) (w : World) :
    (callFunc 67 #[.float .f64 x]).run Try.prog w = .ok (.value (.float .f64 r)) w := by
  rw [run_callFunc_extern Try.func67 (by kernel_rfl) (by kernel_rfl) (by kernel_rfl) (e := Extern.MathSqrt.sqrt) (by kernel_rfl)]
  have e : Extern.MathSqrt.sqrt #[.float .f64 x] = (match FloatKind.f64.format.sqrt x with | some r => pure (.float .f64 r) | none => do pure (.float .f64 (← choose (.nanBits .f64 x x)))) := rfl
  rw [e, h]
  simp [Result.andThen]

set_option maxHeartbeats 400000 in
theorem mathSqrt_any (x r : Nat) (h : FloatKind.f64.format.sqrt x = some r) (w : World) :
    Calls Try.prog 63 #[.float .f64 x] w fun e w' => e = .returned (.float .f64 r) ∧ w = w' := by
  have hs := mathsqrt_run x r h w
  clear h
  go_enter Try.func63, Try.ntmps63
  go_wp2
  go_ret
  exact ⟨rfl, rfl⟩

set_option maxHeartbeats 1000000 in
theorem wholeRoot_any (n : Int) (h0 : 0 ≤ n) (h9 : n ≤ 10000000) (w : World) :
    Calls Try.prog 43 #[.int .i64 n] w fun e w' => e = .returned (.int .i64 (rt n)) ∧ w = w' := by
  obtain ⟨m, rfl⟩ := Int.eq_ofNat_of_zero_le h0
  obtain ⟨x, r, hx, hr, r0, r1⟩ := flt_root m (by omega)
  have HS := Lib.hid (mathSqrt_any _ _ hx w)
  have HD := Lib.hid (steppedDown r m r0 r1 h0 w)
  obtain ⟨d0, d1, d2⟩ := dn_bound r0 h0 h9 r1
  have HU := Lib.hid (steppedUp (dn r m) m d0 d2 h9 w)
  have hc : ∀ W : World, (convert 72 71 (.float .f64 x)).run Try.prog W = .ok (.int .i64 r) W := fun W => run_convert_float_int W _ _ _ _ _ _ (by rw [Try.underlying72]; rfl) Try.underlying71 hr
  have hc2 : ∀ W : World, (convert 3 72 (.int .i64 (m : Int))).run Try.prog W = .ok (.float .f64 (floatOfInt .f64 (m : Int))) W := fun W => run_convert_int_float W _ _ _ _ _ (by rw [Try.underlying3]; rfl) Try.underlying72
  obtain ⟨D, hD⟩ : ∃ D, D = dn r m := ⟨_, rfl⟩
  rw [← hD] at HD HU
  obtain ⟨M, hM⟩ : ∃ M : Int, M = (m : Int) := ⟨_, rfl⟩
  obtain ⟨F, hF⟩ : ∃ F, F = floatOfInt .f64 (m : Int) := ⟨_, rfl⟩
  rw [← hF] at hc2 HS
  rw [← hM] at HD HU hc2 ⊢
  clear hx hr d0 d1 d2 hD hF hM h0 h9
  go_enter Try.func43, Try.ntmps43
  go_wp2_with (first | (go_at_call 63; (refine HS.out.mono ?_; rintro e w' ⟨rfl, rfl⟩)) | (go_at_call 64; (with_reducible refine HD.out.mono ?_; rintro e w' ⟨rfl, rfl⟩)) | (go_at_call 64; (with_reducible refine HU.out.mono ?_; rintro e w' ⟨rfl, rfl⟩)))
  go_ret
  exact ⟨rfl, rfl⟩

end Go.Proofs.Ytjdpbjpeohdoiaa
