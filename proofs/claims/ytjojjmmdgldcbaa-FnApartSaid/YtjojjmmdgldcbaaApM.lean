/- Two moves' least square as a fraction. No conditions but those written in each theorem. -/
import Derived.Test.YtjojjmmdgldcbaaUtil
import Derived.IntWalk
namespace Go.Proofs.Ytjojjmmdgldcbaa
open Go.RowKit

/-- Two moves' ways from each other: the square at the beginning and at the end, the square of the change, how far it goes inward. -/
def apB (p q : Int) : Int := p * p + q * q
def apC (p q r s : Int) : Int := (r - p) * (r - p) + (s - q) * (s - q)
def apI (p q r s : Int) : Int := -(p * (r - p) + q * (s - q))
def apX (p q r s : Int) : Int := p * s - q * r
/-- Are they closest between their ends? -/
def apIn (p q r s : Int) : Bool := decide (0 < apI p q r s ∧ apI p q r s < apC p q r s)
/-- The least square as a fraction. -/
def apN (p q r s : Int) : Int := if apIn p q r s then apX p q r s * apX p q r s else lo2 (apB p q) (apB r s)
def apD (p q r s : Int) : Int := if apIn p q r s then apC p q r s else 1
/-- The first time of it, as a fraction. -/
def apT (p q r s n : Int) : Int := if apIn p q r s then apI p q r s * n else if apB r s < apB p q then n else 0
theorem ap_end (p q r s : Int) : apB r s = apB p q + apC p q r s - 2 * apI p q r s := by unfold apB apC apI; grind
theorem ap_cross (p q r s : Int) : apB p q * apC p q r s - apI p q r s * apI p q r s = apX p q r s * apX p q r s := by unfold apB apC apI apX; grind
theorem sq_nonneg (a : Int) : 0 ≤ a * a := by
  rcases Int.le_total 0 a with h | h
  · exact Int.mul_nonneg h h
  · have := Int.mul_nonneg (show 0 ≤ -a by omega) (show 0 ≤ -a by omega)
    rwa [Int.neg_mul_neg] at this
theorem apB_nonneg (p q : Int) : 0 ≤ apB p q := by unfold apB; have := sq_nonneg p; have := sq_nonneg q; omega
theorem apC_nonneg (p q r s : Int) : 0 ≤ apC p q r s := by unfold apC; have := sq_nonneg (r - p); have := sq_nonneg (s - q); omega
theorem sq_zero {a : Int} (h : a * a = 0) : a = 0 := by rcases Int.mul_eq_zero.1 h with h | h <;> exact h
theorem apC_zero {p q r s : Int} : apC p q r s = 0 ↔ p = r ∧ q = s := by
  unfold apC
  constructor
  · intro h
    have h1 := sq_nonneg (r - p)
    have h2 := sq_nonneg (s - q)
    have h3 := sq_zero (show (r - p) * (r - p) = 0 by omega)
    have h4 := sq_zero (show (s - q) * (s - q) = 0 by omega)
    omega
  · rintro ⟨rfl, rfl⟩
    simp
theorem apIn_iff {p q r s : Int} : apIn p q r s = true ↔ 0 < apI p q r s ∧ apI p q r s < apC p q r s := by simp [apIn]
/-- The program's own fraction: a multiple of it. -/
def prt (i c : Int) : Int := if i ≤ 0 then 0 else if c ≤ i then c else i
def rawN (p q r s : Int) : Int := apB p q * apC p q r s + prt (apI p q r s) (apC p q r s) * (prt (apI p q r s) (apC p q r s) - 2 * apI p q r s)
theorem raw_eq (p q r s : Int) (hc : 0 < apC p q r s) : ∃ k : Nat, 0 < k ∧ rawN p q r s = apN p q r s * (k : Int) ∧ apC p q r s = apD p q r s * (k : Int) ∧ ∀ n, prt (apI p q r s) (apC p q r s) * n = apT p q r s n * (k : Int) := by
  have he := ap_end p q r s
  have hx := ap_cross p q r s
  by_cases h1 : apI p q r s ≤ 0
  · refine ⟨(apC p q r s).toNat, by omega, ?_, ?_, ?_⟩
    · have hi : apIn p q r s = false := by unfold apIn; exact decide_eq_false (by omega)
      have ht : ((apC p q r s).toNat : Int) = apC p q r s := by omega
      rw [ht]
      unfold rawN apN prt lo2
      rw [if_pos h1, hi, if_neg (by decide)]
      have : ¬ apB r s < apB p q := by omega
      split
      · rw [Int.zero_mul, Int.add_zero]
      · rw [show apB r s = apB p q by omega, Int.zero_mul, Int.add_zero]
    · have hi : apIn p q r s = false := by unfold apIn; exact decide_eq_false (by omega)
      unfold apD
      rw [hi, if_neg (by decide)]
      omega
    · have hi : apIn p q r s = false := by unfold apIn; exact decide_eq_false (by omega)
      intro n
      unfold prt apT
      rw [if_pos h1, hi, if_neg (by decide), if_neg (by omega)]
      simp
  · by_cases h2 : apC p q r s ≤ apI p q r s
    · have hi : apIn p q r s = false := by unfold apIn; exact decide_eq_false (by omega)
      have ht : ((apC p q r s).toNat : Int) = apC p q r s := by omega
      refine ⟨(apC p q r s).toNat, by omega, ?_, ?_, ?_⟩
      · rw [ht]
        unfold rawN apN prt lo2
        rw [if_neg h1, if_pos h2, hi, if_neg (by decide), if_neg (by omega)]
        rw [he]
        grind
      · unfold apD
        rw [hi, if_neg (by decide)]
        omega
      · intro n
        rw [ht]
        unfold prt apT
        rw [if_neg h1, if_pos h2, hi, if_neg (by decide), if_pos (by omega)]
        exact Int.mul_comm _ _
    · have hi : apIn p q r s = true := by unfold apIn; exact decide_eq_true (by omega)
      refine ⟨1, by omega, ?_, ?_, ?_⟩
      · unfold rawN apN prt
        rw [if_neg h1, if_neg h2, hi, if_pos rfl, ← hx]
        grind
      · unfold apD
        rw [hi, if_pos rfl]
        omega
      · intro n
        unfold prt apT
        rw [if_neg h1, if_neg h2, hi, if_pos rfl]
        omega
theorem still_eq {p q r s : Int} (hc : apC p q r s = 0) : apN p q r s = apB p q ∧ apD p q r s = 1 ∧ ∀ n, apT p q r s n = 0 := by
  have hi : apIn p q r s = false := by unfold apIn; exact decide_eq_false (by omega)
  obtain ⟨rfl, rfl⟩ := apC_zero.1 hc
  unfold apN apD apT lo2
  rw [hi]
  refine ⟨?_, rfl, fun n => ?_⟩
  · rw [if_neg (by decide)]; split <;> rfl
  · rw [if_neg (by decide), if_neg (by omega)]
/-- A product's bounds. -/
theorem mul_bd {a b m n : Int} (a0 : -m ≤ a) (a1 : a ≤ m) (b0 : -n ≤ b) (b1 : b ≤ n) : -(m * n) ≤ a * b ∧ a * b ≤ m * n := by
  have h1 : 0 ≤ (m - a) * (n + b) := Int.mul_nonneg (by omega) (by omega)
  have h2 : 0 ≤ (m + a) * (n - b) := Int.mul_nonneg (by omega) (by omega)
  have h3 : 0 ≤ (m - a) * (n - b) := Int.mul_nonneg (by omega) (by omega)
  have h4 : 0 ≤ (m + a) * (n + b) := Int.mul_nonneg (by omega) (by omega)
  constructor <;> grind
/-- Ways within the field. -/
def wayOk (p q r s : Int) : Prop := (-1280 ≤ p ∧ p ≤ 1280) ∧ (-672 ≤ q ∧ q ≤ 672) ∧ (-1280 ≤ r ∧ r ≤ 1280) ∧ (-672 ≤ s ∧ s ≤ 672)
theorem apB_bd {p q : Int} (hp : -1280 ≤ p ∧ p ≤ 1280) (hq : -672 ≤ q ∧ q ≤ 672) : (0 ≤ p * p ∧ p * p ≤ 1638400) ∧ (0 ≤ q * q ∧ q * q ≤ 451584) ∧ 0 ≤ apB p q ∧ apB p q ≤ 2089984 := by
  have h1 := mul_bd hp.1 hp.2 hp.1 hp.2
  have h2 := mul_bd hq.1 hq.2 hq.1 hq.2
  have h3 := sq_nonneg p
  have h4 := sq_nonneg q
  unfold apB
  omega
theorem apC_bd {p q r s : Int} (h : wayOk p q r s) : (0 ≤ (r - p) * (r - p) ∧ (r - p) * (r - p) ≤ 6553600) ∧ (0 ≤ (s - q) * (s - q) ∧ (s - q) * (s - q) ≤ 1806336) ∧ 0 ≤ apC p q r s ∧ apC p q r s ≤ 8359936 := by
  obtain ⟨⟨p0, p1⟩, ⟨q0, q1⟩, ⟨r0, r1⟩, s0, s1⟩ := h
  have h1 := mul_bd (a := r - p) (b := r - p) (m := 2560) (n := 2560) (by omega) (by omega) (by omega) (by omega)
  have h2 := mul_bd (a := s - q) (b := s - q) (m := 1344) (n := 1344) (by omega) (by omega) (by omega) (by omega)
  have h3 := sq_nonneg (r - p)
  have h4 := sq_nonneg (s - q)
  unfold apC
  omega
theorem apI_bd {p q r s : Int} (h : wayOk p q r s) : (-3276800 ≤ p * (r - p) ∧ p * (r - p) ≤ 3276800) ∧ (-903168 ≤ q * (s - q) ∧ q * (s - q) ≤ 903168) ∧ -4179968 ≤ apI p q r s ∧ apI p q r s ≤ 4179968 := by
  obtain ⟨⟨p0, p1⟩, ⟨q0, q1⟩, ⟨r0, r1⟩, s0, s1⟩ := h
  have h1 := mul_bd (a := p) (b := r - p) (m := 1280) (n := 2560) (by omega) (by omega) (by omega) (by omega)
  have h2 := mul_bd (a := q) (b := s - q) (m := 672) (n := 1344) (by omega) (by omega) (by omega) (by omega)
  unfold apI
  omega
theorem apX_bd {p q r s : Int} (h : wayOk p q r s) : (-860160 ≤ p * s ∧ p * s ≤ 860160) ∧ (-860160 ≤ q * r ∧ q * r ≤ 860160) ∧ (-1720320 ≤ apX p q r s ∧ apX p q r s ≤ 1720320) ∧ 0 ≤ apX p q r s * apX p q r s ∧ apX p q r s * apX p q r s ≤ 2959500902400 := by
  obtain ⟨⟨p0, p1⟩, ⟨q0, q1⟩, ⟨r0, r1⟩, s0, s1⟩ := h
  have h1 := mul_bd (a := p) (b := s) (m := 1280) (n := 672) (by omega) (by omega) (by omega) (by omega)
  have h2 := mul_bd (a := q) (b := r) (m := 672) (n := 1280) (by omega) (by omega) (by omega) (by omega)
  have h3 : -1720320 ≤ apX p q r s ∧ apX p q r s ≤ 1720320 := by unfold apX; omega
  have h4 := mul_bd h3.1 h3.2 h3.1 h3.2
  have h5 := sq_nonneg (apX p q r s)
  omega
theorem apN_bd {p q r s : Int} (h : wayOk p q r s) : (0 ≤ apN p q r s ∧ apN p q r s ≤ 2959500902400) ∧ 0 < apD p q r s ∧ apD p q r s ≤ 8359936 := by
  have h1 := apX_bd h
  have h2 := apC_bd h
  have h3 := apB_bd h.1 h.2.1
  have h4 := apB_bd h.2.2.1 h.2.2.2
  unfold apN apD
  cases hi : apIn p q r s
  · rw [if_neg (by decide), if_neg (by decide)]
    unfold lo2
    split <;> omega
  · have := apIn_iff.1 hi
    rw [if_pos rfl, if_pos rfl]
    omega
theorem apT_bd {p q r s n : Int} (h : wayOk p q r s) (n0 : 1 ≤ n) (n1 : n ≤ 64) : 0 ≤ apT p q r s n ∧ apT p q r s n ≤ 1000000000 := by
  have h1 := apI_bd h
  unfold apT
  cases hi : apIn p q r s
  · rw [if_neg (by decide)]
    split <;> omega
  · have := apIn_iff.1 hi
    rw [if_pos rfl]
    have h2 := mul_bd (a := apI p q r s) (b := n) (m := 4179968) (n := 64) (by omega) (by omega) (by omega) (by omega)
    have h3 := Int.mul_nonneg (show 0 ≤ apI p q r s by omega) (show 0 ≤ n by omega)
    omega
theorem prt_bd {i c : Int} (hc : 0 ≤ c) : 0 ≤ prt i c ∧ prt i c ≤ c := by
  unfold prt
  split
  · omega
  · split <;> omega
/-- What the program's fraction is computed from. -/
theorem raw_bd {p q r s : Int} (h : wayOk p q r s) : (0 ≤ apB p q * apC p q r s ∧ apB p q * apC p q r s ≤ 100000000000000) ∧ (-40000000 ≤ prt (apI p q r s) (apC p q r s) - 2 * apI p q r s ∧ prt (apI p q r s) (apC p q r s) - 2 * apI p q r s ≤ 40000000) ∧
    (-400000000000000 ≤ prt (apI p q r s) (apC p q r s) * (prt (apI p q r s) (apC p q r s) - 2 * apI p q r s) ∧ prt (apI p q r s) (apC p q r s) * (prt (apI p q r s) (apC p q r s) - 2 * apI p q r s) ≤ 400000000000000) := by
  have h1 := apB_bd h.1 h.2.1
  have h2 := apC_bd h
  have h3 := apI_bd h
  have h4 := prt_bd (i := apI p q r s) h2.2.2.1
  have h5 := mul_bd (a := apB p q) (b := apC p q r s) (m := 2089984) (n := 8359936) (by omega) (by omega) (by omega) (by omega)
  have h6 := Int.mul_nonneg h1.2.2.1 h2.2.2.1
  have h7 := mul_bd (a := prt (apI p q r s) (apC p q r s)) (b := prt (apI p q r s) (apC p q r s) - 2 * apI p q r s) (m := 8359936) (n := 40000000) (by omega) (by omega) (by omega) (by omega)
  omega
/-- Is a fraction less than another one? -/
def fLt (a b c d : Int) : Bool := decide (a * d < c * b)
/-- The wholes first, then the rests. -/
theorem fLt_parts {a b c d : Int} (ha : 0 ≤ a) (hb : 0 < b) (hc : 0 ≤ c) (hd : 0 < d) : fLt a b c d = if a / b ≠ c / d then decide (a / b < c / d) else decide (a % b * d < c % d * b) := by
  unfold fLt
  have e1 := Int.mul_ediv_add_emod a b
  have e2 := Int.mul_ediv_add_emod c d
  have m1 := Int.emod_nonneg a (show b ≠ 0 by omega)
  have m2 := Int.emod_nonneg c (show d ≠ 0 by omega)
  have l1 := Int.emod_lt_of_pos a hb
  have l2 := Int.emod_lt_of_pos c hd
  obtain ⟨u, hu⟩ : ∃ u, u = a / b := ⟨_, rfl⟩
  obtain ⟨v, hv⟩ : ∃ v, v = c / d := ⟨_, rfl⟩
  obtain ⟨x, hx⟩ : ∃ x, x = a % b := ⟨_, rfl⟩
  obtain ⟨y, hy⟩ : ∃ y, y = c % d := ⟨_, rfl⟩
  rw [← hu, ← hv, ← hx, ← hy]
  rw [← hu, ← hx] at e1
  rw [← hv, ← hy] at e2
  rw [← hx] at m1 l1
  rw [← hy] at m2 l2
  clear hu hv hx hy ha hc
  subst e1 e2
  have f1 : (b * u + x) * d = b * d * u + x * d := by grind
  have f2 : (d * v + y) * b = b * d * v + y * b := by grind
  rw [f1, f2]
  have g : 0 < b * d := Int.mul_pos hb hd
  have g1 : 0 ≤ x * d := Int.mul_nonneg m1 (by omega)
  have g2 : 0 ≤ y * b := Int.mul_nonneg m2 (by omega)
  have g3 : x * d < b * d := Int.mul_lt_mul_of_pos_right l1 hd
  have g4 : y * b < b * d := by rw [Int.mul_comm b d]; exact Int.mul_lt_mul_of_pos_right l2 hb
  split
  · rename_i hne
    refine decide_eq_decide.2 ⟨fun h => ?_, fun h => ?_⟩
    · rcases Int.lt_or_lt_of_ne hne with h3 | h3
      · exact h3
      · exfalso
        have h5 : b * d * (v + 1) ≤ b * d * u := Int.mul_le_mul_of_nonneg_left (by omega) (by omega)
        rw [Int.mul_add] at h5
        omega
    · have h5 : b * d * (u + 1) ≤ b * d * v := Int.mul_le_mul_of_nonneg_left (by omega) (by omega)
      rw [Int.mul_add] at h5
      omega
  · rename_i he
    have he : u = v := by omega
    subst he
    exact decide_eq_decide.2 (by omega)
/-- Multiples of both parts are the same fraction. -/
theorem fLt_mul {a b c d k m : Int} (hk : 0 < k) (hm : 0 < m) : fLt (a * k) (b * k) (c * m) (d * m) = fLt a b c d := by
  unfold fLt
  refine decide_eq_decide.2 ?_
  have e1 : a * k * (d * m) = (a * d) * (k * m) := by grind
  have e2 : c * m * (b * k) = (c * b) * (k * m) := by grind
  rw [e1, e2]
  have g : 0 < k * m := Int.mul_pos hk hm
  constructor
  · intro h
    exact Int.lt_of_mul_lt_mul_right h (by omega)
  · intro h
    exact Int.mul_lt_mul_of_pos_right h g

end Go.Proofs.Ytjojjmmdgldcbaa
