/- The root of a whole number up to 2^24 that floats give, made whole, lies between 0 and 8192. Conditions: those written in each theorem. -/
import Derived.Laws.FloatArith
namespace Go.Proofs.Ytjdpbjpeohdoiaa

theorem flt_cut0 (way : Ieee.Toward) (neg : Bool) (n : Nat) : way.cut neg n 0 = n := by
  unfold Ieee.Toward.cut
  simp [Nat.mod_one]
  cases way <;> simp

theorem flt_cut_even (n drop : Nat) (hd : drop ≤ n.log2 + 2) : n / 2 ^ drop ≤ Ieee.Toward.even.cut false n drop ∧ Ieee.Toward.even.cut false n drop ≤ n / 2 ^ drop + 1 := by
  unfold Ieee.Toward.cut
  rw [Nat.min_eq_left hd, Nat.one_shiftLeft]
  dsimp only
  have h := Bool.toNat_le (decide (2 ^ drop < 2 * (n % 2 ^ drop)) || (2 ^ drop == 2 * (n % 2 ^ drop) && n / 2 ^ drop % 2 == 1))
  omega

theorem flt_cut_zero (n drop : Nat) (hd : drop ≤ n.log2 + 2) : Ieee.Toward.zero.cut false n drop = n / 2 ^ drop := by
  unfold Ieee.Toward.cut
  rw [Nat.min_eq_left hd, Nat.one_shiftLeft]
  simp

theorem flt_least : Ieee.double.leastPlace = -1074 := by decide
theorem flt_binade : Ieee.double.binade = 4503599627370496 := by decide
theorem flt_inf : Ieee.double.infRung = 9218868437227405312 := by decide
theorem flt_sign : Ieee.double.signWeight = 9223372036854775808 := by decide

/-- A word of a number that is not too small. -/
theorem flt_near (mag : Nat) (place : Int) (h : mag ≠ 0) (hp : -1074 ≤ place + mag.log2 - 52) :
    Ieee.double.nearest false mag place = min ((place + mag.log2 - 52 + 1074).toNat * 4503599627370496 + Ieee.Toward.even.cut false (mag <<< (52 - (mag.log2 : Int)).toNat) ((mag.log2 : Int) - 52).toNat) 9218868437227405312 := by
  unfold Ieee.Format.nearest
  rw [if_neg h]
  dsimp only
  rw [flt_least, flt_binade, flt_inf]
  have e1 : max (place + (mag.log2 : Int) - ((Ieee.double.fractionBits : Nat) : Int)) (-1074) = place + (mag.log2 : Int) - 52 := by
    show max (place + (mag.log2 : Int) - 52) (-1074) = _
    omega
  rw [e1]
  have e2 : place - (place + (mag.log2 : Int) - 52) = 52 - (mag.log2 : Int) := by omega
  have e3 : place + (mag.log2 : Int) - 52 - place = (mag.log2 : Int) - 52 := by omega
  have e4 : place + (mag.log2 : Int) - 52 - -1074 = place + (mag.log2 : Int) - 52 + 1074 := by omega
  rw [e2, e3, e4]
  simp only [Ieee.Format.word, Bool.false_eq_true, if_false]

theorem flt_read (q r : Nat) (hq : 1 ≤ q) (hq2 : q < 2047) (hr : r < 4503599627370496) :
    Ieee.double.read (q * 4503599627370496 + r) = .number false (4503599627370496 + r) (-1074 + ((q - 1 : Nat) : Int)) := by
  unfold Ieee.Format.read
  dsimp only
  rw [flt_sign, flt_binade, flt_inf, flt_least]
  have e1 : (q * 4503599627370496 + r) / 9223372036854775808 = 0 := by omega
  have e2 : (q * 4503599627370496 + r) % 9223372036854775808 = q * 4503599627370496 + r := by omega
  rw [e1, e2]
  rw [if_neg (by omega), if_pos (by omega)]
  have e3 : (q * 4503599627370496 + r) % 4503599627370496 = r := by omega
  have e4 : (q * 4503599627370496 + r) / 4503599627370496 = q := by omega
  rw [e3, e4]
  rfl

theorem flt_rootFrom (n : Nat) : ∀ (t r : Nat), r ≤ Ieee.Datum.rootFrom n t r ∧ Ieee.Datum.rootFrom n t r < r + 2 ^ t
  | 0, r => by simp [Ieee.Datum.rootFrom]
  | t + 1, r => by
    simp only [Ieee.Datum.rootFrom]
    have e : (1 : Nat) <<< t = 2 ^ t := Nat.one_shiftLeft t
    have e2 : 2 ^ (t + 1) = 2 ^ t + 2 ^ t := by rw [Nat.pow_succ]; omega
    split
    · have h := flt_rootFrom n t (r + 1 <<< t)
      rw [e] at h ⊢
      omega
    · have h := flt_rootFrom n t r
      omega

/-- The float of a small whole number. -/
theorem flt_ofNat (n : Nat) (h0 : n ≠ 0) (hn : n < 16777216) : ∃ r, r < 4503599627370496 ∧ 4503599627370496 + r = n * 2 ^ (52 - n.log2) ∧ n.log2 ≤ 23 ∧
    FloatKind.f64.nearest (n : Int) = (n.log2 + 1023) * 4503599627370496 + r := by
  have hL : n.log2 ≤ 23 := by
    have h1 := Nat.log2_self_le h0
    rcases Nat.lt_or_ge n.log2 24 with h | h
    · omega
    · have := Nat.pow_le_pow_right (n := 2) (by omega) h
      omega
  have h1 := Nat.log2_self_le h0
  have h2 := @Nat.lt_log2_self n
  have hk : 2 ^ n.log2 * 2 ^ (52 - n.log2) = 4503599627370496 := by
    rw [← Nat.pow_add, show n.log2 + (52 - n.log2) = 52 by omega]
  have hk2 : 2 ^ (n.log2 + 1) * 2 ^ (52 - n.log2) = 9007199254740992 := by
    rw [← Nat.pow_add, show n.log2 + 1 + (52 - n.log2) = 53 by omega]
  have hp : 0 < 2 ^ (52 - n.log2) := Nat.two_pow_pos _
  have a1 : 4503599627370496 ≤ n * 2 ^ (52 - n.log2) := by rw [← hk]; exact Nat.mul_le_mul_right _ h1
  have a2 : n * 2 ^ (52 - n.log2) < 9007199254740992 := by rw [← hk2]; exact Nat.mul_lt_mul_of_pos_right h2 hp
  refine ⟨n * 2 ^ (52 - n.log2) - 4503599627370496, by omega, by omega, hL, ?_⟩
  show Ieee.double.nearest (decide ((n : Int) < 0)) (n : Int).natAbs 0 = _
  rw [show decide ((n : Int) < 0) = false from decide_eq_false (by omega), Int.natAbs_natCast]
  rw [flt_near n 0 h0 (by omega)]
  rw [show ((n.log2 : Int) - 52).toNat = 0 by omega, flt_cut0, Nat.shiftLeft_eq, show (52 - (n.log2 : Int)).toNat = 52 - n.log2 by omega]
  rw [show (0 + (n.log2 : Int) - 52 + 1074).toNat = n.log2 + 1022 by omega]
  omega

theorem flt_top (n t : Nat) (h : 2 ^ t * 2 ^ t ≤ n) : Ieee.Datum.rootFrom n (t + 1) 0 = Ieee.Datum.rootFrom n t (2 ^ t) := by
  simp only [Ieee.Datum.rootFrom, Nat.one_shiftLeft, Nat.zero_add]
  rw [if_pos h]

theorem flt_log52 (m : Nat) (m1 : 4503599627370496 ≤ m) (m2 : m < 9007199254740992) : m.log2 = 52 := (Nat.log2_eq_iff (by omega)).2 ⟨by omega, by omega⟩
theorem flt_log55 (m : Nat) (m1 : 36028797018963968 ≤ m) (m2 : m < 72057594037927936) : m.log2 = 55 := (Nat.log2_eq_iff (by omega)).2 ⟨by omega, by omega⟩
theorem flt_log108 (N p : Nat) (hp : p ≤ 1) (n1 : 2 ^ (108 + p) ≤ N) (n2 : N < 2 ^ (109 + p)) : N.log2 / 2 + 1 = 55 := by
  have h0 : 0 < 2 ^ (108 + p) := Nat.two_pow_pos _
  have hN : N ≠ 0 := by omega
  have h : N.log2 = 108 + p := (Nat.log2_eq_iff hN).2 ⟨n1, by rw [show 108 + p + 1 = 109 + p by omega]; exact n2⟩
  rw [h]
  omega

/-- The word of a number of 56 digits. -/
theorem flt_write (M h : Nat) (hh : h ≤ 11) (M1 : 36028797018963968 ≤ M) (M2 : M < 72057594037927936) :
    ∃ q r, r < 4503599627370496 ∧ Ieee.double.write (.number false M ((h : Int) - 55)) = q * 4503599627370496 + r ∧ h + 1023 ≤ q ∧ q ≤ h + 1024 := by
  have hlM := flt_log55 M M1 M2
  obtain ⟨K, hK⟩ : ∃ K, K = Ieee.Toward.even.cut false M 3 := ⟨_, rfl⟩
  have hc := flt_cut_even M 3 (by omega)
  rw [← hK] at hc
  have hM0 : M ≠ 0 := by omega
  have hword : Ieee.double.write (.number false M ((h : Int) - 55)) = min ((h + 1022) * 4503599627370496 + K) 9218868437227405312 := by
    show Ieee.double.nearest false M ((h : Int) - 55) = _
    rw [flt_near M _ hM0 (by rw [hlM]; omega), hlM]
    rw [show (52 - ((55 : Nat) : Int)).toNat = 0 by omega, show (((55 : Nat) : Int) - 52).toNat = 3 by omega, Nat.shiftLeft_zero, ← hK]
    rw [show ((h : Int) - 55 + ((55 : Nat) : Int) - 52 + 1074).toNat = h + 1022 by omega]
  rw [hword]
  have k1 : 4503599627370496 ≤ K := by omega
  have k2 : K ≤ 9007199254740992 := by omega
  clear hword hc hK hlM M1 M2 hM0
  rw [Nat.min_eq_left (by omega)]
  by_cases e : K = 9007199254740992
  · exact ⟨h + 1024, 0, by omega, by omega, by omega, by omega⟩
  · exact ⟨h + 1023, K - 4503599627370496, by omega, by omega, by omega, by omega⟩

theorem flt_decode (x : Nat) : FloatKind.f64.decode x = Ieee.double.read x := rfl
theorem flt_cut_low (m d : Nat) (hm : m < 9007199254740992) (hd : 40 ≤ d) : m / 2 ^ d ≤ 8192 := by
  have g1 : m / 2 ^ d ≤ m / 2 ^ 40 := Nat.div_le_div_left (Nat.pow_le_pow_right (by omega) hd) (Nat.two_pow_pos _)
  have g2 : m / 2 ^ 40 ≤ 9007199254740992 / 2 ^ 40 := Nat.div_le_div_right (by omega)
  exact Nat.le_trans g1 (Nat.le_trans g2 (by decide))
theorem flt_toInt (m : Nat) (i : Int) (hi : i ≤ 0) (hl : (-i).toNat ≤ m.log2 + 2) : (Ieee.Datum.number false m i).toInt .zero = some ((m / 2 ^ (-i).toNat : Nat) : Int) := by
  unfold Ieee.Datum.toInt Ieee.Datum.integral
  simp only
  rw [show i.toNat = 0 by omega, Nat.shiftLeft_zero, flt_cut_zero _ _ hl]
  simp [Ieee.signed]
theorem flt_intVal (x : Nat) (D : Nat) (h : (FloatKind.f64.decode x).toInt .zero = some (D : Int)) (hd : D ≤ 8192) : floatToIntVal .f64 x .i64 = some (D : Int) := by
  unfold floatToIntVal
  rw [h]
  have hmn : IntKind.i64.min = -9223372036854775808 := by decide
  have hmx : IntKind.i64.max = 9223372036854775807 := by decide
  simp only
  rw [if_pos ⟨by omega, by omega⟩]

/-- A number of 53 digits made whole. -/
theorem flt_whole (q r : Nat) (hr : r < 4503599627370496) (h1 : 1023 ≤ q) (h2 : q ≤ 1035) :
    ∃ v, floatToIntVal .f64 (q * 4503599627370496 + r) .i64 = some v ∧ 0 ≤ v ∧ v ≤ 8192 := by
  have hrd := flt_read q r (by omega) (by omega) hr
  have hlr := flt_log52 (4503599627370496 + r) (by omega) (by omega)
  have hn : (-(-1074 + ((q - 1 : Nat) : Int))).toNat = 1075 - q := by omega
  have ht := flt_toInt (4503599627370496 + r) (-1074 + ((q - 1 : Nat) : Int)) (by omega) (by rw [hlr, hn]; omega)
  rw [hn] at ht
  have hd := flt_cut_low (4503599627370496 + r) (1075 - q) (by omega) (by omega)
  refine ⟨_, flt_intVal _ _ (by rw [flt_decode, hrd]; exact ht) hd, ?_, ?_⟩
  · exact Int.natCast_nonneg _
  · exact Int.ofNat_le.2 hd

/-- The root of a number of 53 digits. -/
theorem flt_datum (m L : Nat) (hL : L ≤ 23) (m1 : 4503599627370496 ≤ m) (m2 : m < 9007199254740992) :
    ∃ M h : Nat, h ≤ 11 ∧ 36028797018963968 ≤ M ∧ M < 72057594037927936 ∧ (Ieee.Datum.number false m ((L : Int) - 52)).root 54 = some (.number false M ((h : Int) - 55)) := by
  have hm0 : ¬ m = 0 := by omega
  have hlog := flt_log52 m m1 m2
  obtain ⟨p, hp, h, hh⟩ : ∃ p, p ≤ 1 ∧ ∃ h, L = 2 * h + p := ⟨L % 2, by omega, L / 2, by omega⟩
  obtain ⟨N, hN⟩ : ∃ N, N = m <<< (56 + p) := ⟨_, rfl⟩
  have hNe : N = m * 2 ^ (56 + p) := by rw [hN, Nat.shiftLeft_eq]
  have hl : N.log2 / 2 + 1 = 54 + 1 := by
    refine flt_log108 N p hp ?_ ?_
    · rw [hNe, show 108 + p = 52 + (56 + p) by omega, Nat.pow_add 2 52]
      exact Nat.mul_le_mul_right _ m1
    · rw [hNe, show 109 + p = 53 + (56 + p) by omega, Nat.pow_add 2 53]
      exact Nat.mul_lt_mul_of_pos_right m2 (Nat.two_pow_pos _)
  have hbig : 2 ^ 54 * 2 ^ 54 ≤ N := by
    rw [← Nat.pow_add, hNe]
    exact Nat.le_trans (Nat.le_of_eq (Nat.pow_add 2 52 56)) (Nat.mul_le_mul m1 (Nat.pow_le_pow_right (by omega) (by omega)))
  obtain ⟨W, hW⟩ : ∃ W, W = Ieee.Datum.rootFrom N 54 (2 ^ 54) := ⟨_, rfl⟩
  have hb := flt_rootFrom N 54 (2 ^ 54)
  rw [← hW] at hb
  have hs := Bool.toNat_le (W * W != N)
  refine ⟨2 * W + (W * W != N).toNat, h, by omega, by omega, by omega, ?_⟩
  simp only [Ieee.Datum.root, if_neg hm0, Bool.false_eq_true, if_false]
  rw [hlog, show 2 * 54 - 52 + (((L : Int) - 52 - ((2 * 54 - 52 : Nat) : Int)) % 2).toNat = 56 + p by omega]
  rw [show ((L : Int) - 52 - ((56 + p : Nat) : Int)) / 2 - 1 = (h : Int) - 55 by omega]
  rw [← hN, hl, flt_top N 54 hbig, ← hW]

theorem flt_sqrt_def (x : Nat) : FloatKind.f64.format.sqrt x = ((Ieee.double.read x).root 54).map Ieee.double.write := rfl

/-- What floats give for the root of a whole number up to 2^24. -/
theorem flt_root (n : Nat) (hn : n < 16777216) :
    ∃ w r, FloatKind.f64.format.sqrt (floatOfInt .f64 (n : Int)) = some w ∧ floatToIntVal .f64 w .i64 = some r ∧ 0 ≤ r ∧ r ≤ 8192 := by
  by_cases h0 : n = 0
  · subst h0
    exact ⟨0, 0, by decide +kernel, by decide +kernel, by omega, by omega⟩
  · obtain ⟨r, hr, he, hL, hw⟩ := flt_ofNat n h0 hn
    obtain ⟨M, h, hh, M1, M2, hd⟩ := flt_datum (4503599627370496 + r) n.log2 hL (by clear hw he; omega) (by clear hw he; omega)
    obtain ⟨q, r', hr', e, q1, q2⟩ := flt_write M h hh M1 M2
    obtain ⟨v, hv, v1, v2⟩ := flt_whole q r' hr' (by clear hw he; omega) (by clear hw he; omega)
    refine ⟨q * 4503599627370496 + r', v, ?_, hv, v1, v2⟩
    rw [flt_sqrt_def, show floatOfInt .f64 (n : Int) = FloatKind.f64.nearest (n : Int) from rfl, hw, flt_read _ _ (by omega) (by omega) hr]
    rw [show (-1074 + ((n.log2 + 1023 - 1 : Nat) : Int)) = (n.log2 : Int) - 52 by omega, hd]
    simp only [Option.map_some]
    rw [e]

end Go.Proofs.Ytjdpbjpeohdoiaa
