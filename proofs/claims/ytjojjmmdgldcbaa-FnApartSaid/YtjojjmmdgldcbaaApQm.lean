/- What is asked of two moves besides: the least square is none greater than at any count. No conditions but those written in each theorem. -/
import Derived.Test.YtjojjmmdgldcbaaApCnt
import Derived.Deep.RegionHeld3
import Derived.Deep.DrawnRows
import Derived.IntWalk
import Derived.StillTailTactics
namespace Go.Proofs.Ytjojjmmdgldcbaa
open Go.RowKit


attribute [local go_sem ↓] Go.wp_at_zero Go.wp_at_succ

/-- The square after k counts, by the ways. -/
theorem sqAt_form {x1 y1 x2 y2 n x3 y3 x4 y4 m k : Int} (h : n = m) : sqAt x1 y1 x2 y2 n x3 y3 x4 y4 m k = apB (x1 - x3) (y1 - y3) * (n * n) - 2 * (n * k) * apI (x1 - x3) (y1 - y3) (x2 - x4) (y2 - y4) + apC (x1 - x3) (y1 - y3) (x2 - x4) (y2 - y4) * (k * k) := by
  subst h
  unfold sqAt px apB apI apC
  grind
theorem least_le {p q r s n k : Int} (n0 : 0 ≤ n) (k0 : 0 ≤ k) (k1 : k ≤ n) : apN p q r s * (n * n) ≤ (apB p q * (n * n) - 2 * (n * k) * apI p q r s + apC p q r s * (k * k)) * apD p q r s := by
  have he := ap_end p q r s
  have hx := ap_cross p q r s
  have hC := apC_nonneg p q r s
  have nk : 0 ≤ n * k := Int.mul_nonneg n0 k0
  have kk := sq_nonneg k
  have nn := sq_nonneg n
  obtain ⟨B, hB⟩ : ∃ z, z = apB p q := ⟨_, rfl⟩
  obtain ⟨E, hE⟩ : ∃ z, z = apB r s := ⟨_, rfl⟩
  obtain ⟨I, hI⟩ : ∃ z, z = apI p q r s := ⟨_, rfl⟩
  obtain ⟨C, hC'⟩ : ∃ z, z = apC p q r s := ⟨_, rfl⟩
  have hin : apIn p q r s = decide (0 < I ∧ I < C) := by rw [hI, hC']; rfl
  unfold apN apD
  rw [hin]
  rw [← hB, ← hE, ← hI, ← hC'] at he
  rw [← hB, ← hI, ← hC'] at hx
  rw [← hC'] at hC
  rw [← hB, ← hE, ← hI, ← hC', ← hx]
  clear hB hE hI hC' hin hx
  by_cases h : 0 < I ∧ I < C
  · rw [decide_eq_true h, if_pos rfl, if_pos rfl]
    have h2 := sq_nonneg (I * n - C * k)
    grind
  · rw [decide_eq_false h, if_neg Bool.false_ne_true, if_neg Bool.false_ne_true, Int.mul_one]
    by_cases h1 : I ≤ 0
    · have e : lo2 B E = B := by unfold lo2; split <;> omega
      rw [e]
      have a1 : 0 ≤ C * (k * k) := Int.mul_nonneg hC kk
      have a2 : 0 ≤ (n * k) * (-I) := Int.mul_nonneg nk (by omega)
      rw [Int.mul_neg] at a2
      have a3 : 2 * (n * k) * I = 2 * (n * k * I) := by grind
      omega
    · have e : lo2 B E = E := by unfold lo2; split <;> omega
      rw [e, he]
      have hj : 0 ≤ n - k := by omega
      have a1 : 0 ≤ C * ((n - k) * (n - k)) := Int.mul_nonneg hC (sq_nonneg _)
      have a2 : 0 ≤ (n * (n - k)) * (I - C) := Int.mul_nonneg (Int.mul_nonneg n0 hj) (by omega)
      grind
theorem time_eq {p q r s n k : Int} (n0 : 1 ≤ n) (h : apT p q r s n = k * apD p q r s) : apN p q r s * (n * n) = (apB p q * (n * n) - 2 * (n * k) * apI p q r s + apC p q r s * (k * k)) * apD p q r s := by
  have he := ap_end p q r s
  have hx := ap_cross p q r s
  unfold apT apD at h
  unfold apN apD
  cases hi : apIn p q r s
  · rw [hi, if_neg Bool.false_ne_true, if_neg Bool.false_ne_true, Int.mul_one] at h
    rw [if_neg Bool.false_ne_true, if_neg Bool.false_ne_true, Int.mul_one]
    unfold lo2
    split at h
    · subst h
      rw [if_neg (by omega), he]
      grind
    · subst h
      split
      · grind
      · have e : apB r s = apB p q := by omega
        rw [e]
        grind
  · rw [hi, if_pos rfl, if_pos rfl] at h
    rw [if_pos rfl, if_pos rfl, ← hx]
    grind
theorem apN_neg (p q r s : Int) : apN (-p) (-q) (-r) (-s) = apN p q r s ∧ apD (-p) (-q) (-r) (-s) = apD p q r s := by
  have e1 : apB (-p) (-q) = apB p q := by unfold apB; grind
  have e2 : apB (-r) (-s) = apB r s := by unfold apB; grind
  have e3 : apI (-p) (-q) (-r) (-s) = apI p q r s := by unfold apI; grind
  have e4 : apC (-p) (-q) (-r) (-s) = apC p q r s := by unfold apC; grind
  have e5 : apX (-p) (-q) (-r) (-s) = apX p q r s := by unfold apX; grind
  unfold apN apD apIn
  rw [e1, e2, e3, e4, e5]
  exact ⟨rfl, rfl⟩
theorem aln_swap (x1 y1 x2 y2 x3 y3 x4 y4 : Int) : aln (x3 - x1) (y3 - y1) (x4 - x2) (y4 - y2) = aln (x1 - x3) (y1 - y3) (x2 - x4) (y2 - y4) ∧ ald (x3 - x1) (y3 - y1) (x4 - x2) (y4 - y2) = ald (x1 - x3) (y1 - y3) (x2 - x4) (y2 - y4) := by
  obtain ⟨e1, e2⟩ := apN_neg (x1 - x3) (y1 - y3) (x2 - x4) (y2 - y4)
  rw [show -(x1 - x3) = x3 - x1 by omega, show -(y1 - y3) = y3 - y1 by omega, show -(x2 - x4) = x4 - x2 by omega, show -(y2 - y4) = y4 - y2 by omega] at e1 e2
  unfold aln ald
  rw [e1, e2]
  exact ⟨rfl, rfl⟩
theorem low_eq {A B A' B' : Nat} (h0 : 0 < B) (h1 : 0 < B') (h : A * B' = A' * B) : lowN A B = lowN A' B' ∧ lowD A B = lowD A' B' := by
  obtain ⟨e1, e2⟩ := low_mul (A := A) (B := B) h1 h0
  obtain ⟨e3, e4⟩ := low_mul (A := A') (B := B') h0 h1
  rw [← e1, ← e2, ← e3, ← e4, h, Nat.mul_comm B B']
  exact ⟨rfl, rfl⟩
/-- At no count the square is less than the least one. -/
theorem at_least {x1 y1 x2 y2 n x3 y3 x4 y4 m : Int} {k : Int} (h : gtog x1 y1 x2 y2 n x3 y3 x4 y4 m = true) (k0 : 0 ≤ k) (k1 : k ≤ n) : fLt (sqAt x1 y1 x2 y2 n x3 y3 x4 y4 m k) (n * n) (apN (x1 - x3) (y1 - y3) (x2 - x4) (y2 - y4)) (apD (x1 - x3) (y1 - y3) (x2 - x4) (y2 - y4)) = false := by
  obtain ⟨_, ⟨n0, n1⟩, nm, _⟩ := gtog_way h
  have h1 := least_le (p := x1 - x3) (q := y1 - y3) (r := x2 - x4) (s := y2 - y4) (n := n) (by omega) k0 k1
  rw [← sqAt_form (k := k) nm] at h1
  unfold fLt
  exact decide_eq_false (by omega)
/-- At the first time of it, if this is a count, it is the least one. -/
theorem at_time {x1 y1 x2 y2 n x3 y3 x4 y4 m : Int} {k : Int} (h : gtog x1 y1 x2 y2 n x3 y3 x4 y4 m = true) (k0 : 0 ≤ k) (k1 : k ≤ n) (hd : ctd (x1 - x3) (y1 - y3) (x2 - x4) (y2 - y4) n = 1) (ht : k = ctn (x1 - x3) (y1 - y3) (x2 - x4) (y2 - y4) n) : atn x1 y1 x2 y2 n x3 y3 x4 y4 m k = aln (x1 - x3) (y1 - y3) (x2 - x4) (y2 - y4) ∧ atd x1 y1 x2 y2 n x3 y3 x4 y4 m k = ald (x1 - x3) (y1 - y3) (x2 - x4) (y2 - y4) := by
  obtain ⟨hw, ⟨n0, n1⟩, nm, _⟩ := gtog_way h
  have b1 := apT_bd hw n0 n1
  have b2 := apN_bd hw
  obtain ⟨c, c0, e1, e2, _⟩ := low_facts (apT (x1 - x3) (y1 - y3) (x2 - x4) (y2 - y4) n).toNat (apD (x1 - x3) (y1 - y3) (x2 - x4) (y2 - y4)).toNat (by omega)
  have e1' : apT (x1 - x3) (y1 - y3) (x2 - x4) (y2 - y4) n = k * (c : Int) := by
    have : lowN (apT (x1 - x3) (y1 - y3) (x2 - x4) (y2 - y4) n).toNat (apD (x1 - x3) (y1 - y3) (x2 - x4) (y2 - y4)).toNat = k := ht.symm
    rw [this] at e1
    omega
  have e2' : apD (x1 - x3) (y1 - y3) (x2 - x4) (y2 - y4) = (c : Int) := by
    have : lowD (apT (x1 - x3) (y1 - y3) (x2 - x4) (y2 - y4) n).toNat (apD (x1 - x3) (y1 - y3) (x2 - x4) (y2 - y4)).toNat = 1 := hd
    rw [this] at e2
    omega
  have h1 := time_eq (p := x1 - x3) (q := y1 - y3) (r := x2 - x4) (s := y2 - y4) (n := n) (k := k) n0 (by rw [e1', e2'])
  rw [← sqAt_form (k := k) nm] at h1
  obtain ⟨A, B, f3, f4, _, _, hB0, f1, f2⟩ := sqAt_nat h k0 k1
  rw [f1, f2]
  unfold aln ald
  rw [f3, f4] at h1
  have t1 : ((apN (x1 - x3) (y1 - y3) (x2 - x4) (y2 - y4)).toNat : Int) = apN (x1 - x3) (y1 - y3) (x2 - x4) (y2 - y4) := by omega
  have t2 : ((apD (x1 - x3) (y1 - y3) (x2 - x4) (y2 - y4)).toNat : Int) = apD (x1 - x3) (y1 - y3) (x2 - x4) (y2 - y4) := by omega
  refine low_eq hB0 (by omega) ?_
  have : ((A * (apD (x1 - x3) (y1 - y3) (x2 - x4) (y2 - y4)).toNat : Nat) : Int) = (((apN (x1 - x3) (y1 - y3) (x2 - x4) (y2 - y4)).toNat * B : Nat) : Int) := by
    rw [Int.natCast_mul, Int.natCast_mul, t1, t2]
    exact h1.symm
  exact_mod_cast this
theorem ct_facts {x1 y1 x2 y2 n x3 y3 x4 y4 m : Int} (h : gtog x1 y1 x2 y2 n x3 y3 x4 y4 m = true) : 1 ≤ ctd (x1 - x3) (y1 - y3) (x2 - x4) (y2 - y4) n ∧ 0 ≤ ctn (x1 - x3) (y1 - y3) (x2 - x4) (y2 - y4) n ∧ ctn (x1 - x3) (y1 - y3) (x2 - x4) (y2 - y4) n ≤ n * ctd (x1 - x3) (y1 - y3) (x2 - x4) (y2 - y4) n ∧ 1 ≤ ald (x1 - x3) (y1 - y3) (x2 - x4) (y2 - y4) ∧ 0 ≤ aln (x1 - x3) (y1 - y3) (x2 - x4) (y2 - y4) ∧ ctd (x1 - x3) (y1 - y3) (x2 - x4) (y2 - y4) n ≤ 8359936 := by
  obtain ⟨hw, ⟨n0, n1⟩, nm, _⟩ := gtog_way h
  have b1 := apT_bd hw n0 n1
  have b2 := apN_bd hw
  have b3 := low_bd hw
  obtain ⟨c, c0, e1, e2, l1, l2, l3, l4⟩ := low_facts (apT (x1 - x3) (y1 - y3) (x2 - x4) (y2 - y4) n).toNat (apD (x1 - x3) (y1 - y3) (x2 - x4) (y2 - y4)).toNat (by omega)
  have hle : apT (x1 - x3) (y1 - y3) (x2 - x4) (y2 - y4) n ≤ n * apD (x1 - x3) (y1 - y3) (x2 - x4) (y2 - y4) := by
    unfold apT apD
    cases hi : apIn (x1 - x3) (y1 - y3) (x2 - x4) (y2 - y4)
    · rw [if_neg Bool.false_ne_true, if_neg Bool.false_ne_true]
      split <;> omega
    · have h2 := apIn_iff.1 hi
      rw [if_pos rfl, if_pos rfl, Int.mul_comm n]
      exact Int.mul_le_mul_of_nonneg_right (by omega) (by omega)
  have f1 : ctn (x1 - x3) (y1 - y3) (x2 - x4) (y2 - y4) n = lowN (apT (x1 - x3) (y1 - y3) (x2 - x4) (y2 - y4) n).toNat (apD (x1 - x3) (y1 - y3) (x2 - x4) (y2 - y4)).toNat := rfl
  have f2 : ctd (x1 - x3) (y1 - y3) (x2 - x4) (y2 - y4) n = lowD (apT (x1 - x3) (y1 - y3) (x2 - x4) (y2 - y4) n).toNat (apD (x1 - x3) (y1 - y3) (x2 - x4) (y2 - y4)).toNat := rfl
  rw [← f1] at e1 l1 l3
  rw [← f2] at e2 l2 l4
  refine ⟨by omega, by omega, ?_, by omega, by omega, by omega⟩
  have hT : apT (x1 - x3) (y1 - y3) (x2 - x4) (y2 - y4) n = ctn (x1 - x3) (y1 - y3) (x2 - x4) (y2 - y4) n * (c : Int) := by omega
  have hD : apD (x1 - x3) (y1 - y3) (x2 - x4) (y2 - y4) = ctd (x1 - x3) (y1 - y3) (x2 - x4) (y2 - y4) n * (c : Int) := by omega
  rw [hT, hD, ← Int.mul_assoc] at hle
  exact Int.le_of_mul_le_mul_right hle (by omega)
/-- Who stays apart is close at no count. -/
theorem stay_none {x1 y1 x2 y2 n x3 y3 x4 y4 m L : Int} (h : gtog x1 y1 x2 y2 n x3 y3 x4 y4 m = true) (hs : apSt (x1 - x3) (y1 - y3) (x2 - x4) (y2 - y4) L = true) : ∀ k : Nat, (k : Int) ≤ n + 1 → ccs x1 y1 x2 y2 n x3 y3 x4 y4 m L k = []
  | 0, _ => rfl
  | k + 1, hk => by
    have ih := stay_none h hs k (by omega)
    have h1 := at_least (k := (k : Int)) h (by omega) (by omega)
    have hc : clK x1 y1 x2 y2 n x3 y3 x4 y4 m L k = false := by
      obtain ⟨hw, ⟨n0, n1⟩, nm, _⟩ := gtog_way h
      have b2 := apN_bd hw
      unfold apSt at hs
      unfold fLt at h1 hs
      unfold clK fLt
      have h1 := of_decide_eq_false h1
      have hs : ¬ (apN (x1 - x3) (y1 - y3) (x2 - x4) (y2 - y4) * 1 < L * L * apD (x1 - x3) (y1 - y3) (x2 - x4) (y2 - y4)) := by simpa using hs
      refine decide_eq_false ?_
      intro h2
      have hnn : 0 < n * n := Int.mul_pos (by omega) (by omega)
      rw [Int.mul_one] at h2 hs
      have m1 : sqAt x1 y1 x2 y2 n x3 y3 x4 y4 m (k : Int) * apD (x1 - x3) (y1 - y3) (x2 - x4) (y2 - y4) < L * L * (n * n) * apD (x1 - x3) (y1 - y3) (x2 - x4) (y2 - y4) := Int.mul_lt_mul_of_pos_right h2 b2.2.1
      have m2 : L * L * apD (x1 - x3) (y1 - y3) (x2 - x4) (y2 - y4) * (n * n) ≤ apN (x1 - x3) (y1 - y3) (x2 - x4) (y2 - y4) * (n * n) := Int.mul_le_mul_of_nonneg_right (by omega) (by omega)
      have m3 : L * L * (n * n) * apD (x1 - x3) (y1 - y3) (x2 - x4) (y2 - y4) = L * L * apD (x1 - x3) (y1 - y3) (x2 - x4) (y2 - y4) * (n * n) := by grind
      omega
    rw [ccs_no hc]
    exact ih
theorem ccs_has {x1 y1 x2 y2 n x3 y3 x4 y4 m L : Int} (k : Nat) : ∀ j : Nat, ((k : Int) ∈ ccs x1 y1 x2 y2 n x3 y3 x4 y4 m L j) ↔ k < j ∧ clK x1 y1 x2 y2 n x3 y3 x4 y4 m L k = true
  | 0 => by simp [ccs]
  | j + 1 => by
    have ih := ccs_has (x1 := x1) (y1 := y1) (x2 := x2) (y2 := y2) (n := n) (x3 := x3) (y3 := y3) (x4 := x4) (y4 := y4) (m := m) (L := L) k j
    cases hc : clK x1 y1 x2 y2 n x3 y3 x4 y4 m L j
    · rw [ccs_no hc, ih]
      constructor
      · rintro ⟨h1, h2⟩; exact ⟨by omega, h2⟩
      · rintro ⟨h1, h2⟩
        refine ⟨?_, h2⟩
        by_cases e : k = j
        · subst e; rw [hc] at h2; cases h2
        · omega
    · rw [ccs_yes hc, List.mem_append, ih]
      simp
      constructor
      · rintro (⟨h1, h2⟩ | h1)
        · exact ⟨by omega, h2⟩
        · have : k = j := by omega
          subst this
          exact ⟨by omega, hc⟩
      · rintro ⟨h1, h2⟩
        by_cases e : k = j
        · exact .inr (by omega)
        · exact .inl ⟨by omega, h2⟩

end Go.Proofs.Ytjojjmmdgldcbaa
