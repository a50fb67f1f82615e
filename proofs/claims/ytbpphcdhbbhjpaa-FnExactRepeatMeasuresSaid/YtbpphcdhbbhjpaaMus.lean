/- Plain mathematics of music: counts, measures of counts, times. No conditions but those written in each theorem. -/
import Derived.Test.YtbpphcdhbbhjpaaPairs
namespace Go.Proofs.Ytbpphcdhbbhjpaa
open Go.RowKit

/-- A measure with 1 to 12 counts and a tempo in 40..220. -/
def measOk (c t : Int) : Bool := inB 1 c 12 && inB 40 t 220
theorem measOk_iff {c t : Int} : measOk c t = true ↔ (1 ≤ c ∧ c ≤ 12) ∧ (40 ≤ t ∧ t ≤ 220) := by simp [measOk, inB]
/-- Music. -/
def musOk (l : List (Int × Int)) : Bool := allP measOk l && inB 1 (l.length : Int) 40
theorem musOk_len {l : List (Int × Int)} (h : musOk l = true) : 1 ≤ l.length ∧ l.length ≤ 40 := by
  unfold musOk at h
  rw [Bool.and_eq_true] at h
  have := inB_iff.1 h.2
  omega
theorem musOk_at {l : List (Int × Int)} (h : musOk l = true) (j : Nat) (hj : j < l.length) : (1 ≤ sx l j ∧ sx l j ≤ 12) ∧ (40 ≤ sy l j ∧ sy l j ≤ 220) := by
  unfold musOk at h
  rw [Bool.and_eq_true] at h
  exact measOk_iff.1 (allP_at h.1 j hj)
/-- The number of counts of the first k measures. -/
def cn (l : List (Int × Int)) : Nat → Int
  | 0 => 0
  | k + 1 => cn l k + sx l k
theorem cn_bound {l : List (Int × Int)} (h : musOk l = true) : ∀ k, k ≤ l.length → (k : Int) ≤ cn l k ∧ cn l k ≤ 12 * k
  | 0, _ => by simp [cn]
  | k + 1, hk => by
    have h1 := cn_bound h k (by omega)
    have h2 := (musOk_at h k (by omega)).1
    rw [cn]
    omega
theorem cn_mono {l : List (Int × Int)} (h : musOk l = true) : ∀ {i j : Nat}, i ≤ j → j ≤ l.length → cn l i + (j - i : Nat) ≤ cn l j
  | i, 0, hij, _ => by obtain rfl : i = 0 := by omega
                       simp
  | i, j + 1, hij, hj => by
    by_cases e : i = j + 1
    · subst e; simp
    · have h1 := cn_mono h (i := i) (j := j) (by omega) (by omega)
      have h2 := (musOk_at h j (by omega)).1
      rw [cn]
      omega
/-- How many counts the music has. -/
def total (l : List (Int × Int)) : Int := cn l l.length
/-- The last place up to k whose measures before have at most so many counts. -/
def idx (l : List (Int × Int)) (c : Int) : Nat → Nat
  | 0 => 0
  | k + 1 => if cn l (k + 1) ≤ c then k + 1 else idx l c k
theorem idx_eq {l : List (Int × Int)} (h : musOk l = true) {c : Int} {i : Nat} (h1 : cn l i ≤ c) (h2 : c < cn l (i + 1)) : ∀ {n : Nat}, i ≤ n → n ≤ l.length → idx l c n = i
  | 0, hi, _ => by rw [idx]; omega
  | n + 1, hi, hn => by
    rw [idx]
    by_cases e : i = n + 1
    · subst e; rw [if_pos h1]
    · have hm := cn_mono h (i := i + 1) (j := n + 1) (by omega) hn
      rw [if_neg (by omega)]
      exact idx_eq h h1 h2 (by omega) (by omega)
/-- The measure of a count. -/
def atM (l : List (Int × Int)) (c : Int) : Nat := idx l c l.length
/-- How long c counts of the tempo t last. -/
def lst (c t : Int) : Int := 60000 * c / t
theorem lst_bound {c t : Int} (h0 : 0 ≤ c) (h1 : c ≤ 12) (h2 : 40 ≤ t) (h3 : t ≤ 220) : 0 ≤ lst c t ∧ lst c t ≤ 18000 := by
  unfold lst
  have hn : 0 ≤ 60000 * c := by omega
  refine ⟨Int.ediv_nonneg hn (by omega), ?_⟩
  have : 60000 * c / t < 18001 := Int.ediv_lt_of_lt_mul (by omega) (by
    have : 18001 * 40 ≤ 18001 * t := by omega
    omega)
  omega
theorem lst_step {c t : Int} (h2 : 40 ≤ t) (h3 : t ≤ 220) (h0 : 0 ≤ c) : lst c t + 272 ≤ lst (c + 1) t := by
  unfold lst
  have e : 60000 * (c + 1) = 60000 * c + 60000 := by omega
  have h : 60000 * c + 272 * t ≤ 60000 * (c + 1) := by omega
  have h4 : (60000 * c + 272 * t) / t ≤ 60000 * (c + 1) / t := Int.ediv_le_ediv (by omega) h
  rw [Int.add_mul_ediv_right _ _ (by omega)] at h4
  exact h4
/-- The time at which measure k begins. -/
def tm (l : List (Int × Int)) : Nat → Int
  | 0 => 0
  | k + 1 => tm l k + lst (sx l k) (sy l k)
theorem tm_bound {l : List (Int × Int)} (h : musOk l = true) : ∀ k, k ≤ l.length → 0 ≤ tm l k ∧ tm l k ≤ 18000 * k
  | 0, _ => by simp [tm]
  | k + 1, hk => by
    have h1 := tm_bound h k (by omega)
    have h2 := musOk_at h k (by omega)
    have h3 := lst_bound (c := sx l k) (t := sy l k) (by omega) (by omega) (by omega) (by omega)
    rw [tm]
    omega
/-- The time at which a count begins, or the music ends. -/
def timeM (l : List (Int × Int)) (c : Int) : Int :=
  if c < total l then tm l (atM l c) + lst (c - cn l (atM l c)) (sy l (atM l c)) else tm l l.length
theorem timeM_at {l : List (Int × Int)} (h : musOk l = true) {c : Int} {i : Nat} (hi : i < l.length) (h1 : cn l i ≤ c) (h2 : c < cn l (i + 1)) : timeM l c = tm l i + lst (c - cn l i) (sy l i) := by
  have hm := cn_mono h (i := i + 1) (j := l.length) (by omega) (Nat.le_refl _)
  unfold timeM atM
  rw [if_pos (by unfold total; omega), idx_eq h h1 h2 (by omega) (Nat.le_refl _)]
theorem timeM_end {l : List (Int × Int)} {c : Int} (hc : total l ≤ c) : timeM l c = tm l l.length := by unfold timeM; rw [if_neg (by omega)]
/-- Every count is in a measure. -/
theorem at_exists {l : List (Int × Int)} {c : Int} (h0 : 0 ≤ c) : ∀ n, c < cn l n → ∃ i, i < n ∧ cn l i ≤ c ∧ c < cn l (i + 1)
  | 0, h => by rw [cn] at h; omega
  | n + 1, h => by
    by_cases e : cn l n ≤ c
    · exact ⟨n, by omega, e, h⟩
    · obtain ⟨i, hi, h1, h2⟩ := at_exists (l := l) h0 n (by omega)
      exact ⟨i, by omega, h1, h2⟩
theorem tm_next {l : List (Int × Int)} (h : musOk l = true) {c : Int} {i : Nat} (hi : i < l.length) (h1 : cn l i ≤ c) (h2 : c < cn l (i + 1)) : timeM l c + 272 ≤ timeM l (c + 1) := by
  have hm := musOk_at h i hi
  rw [timeM_at h hi h1 h2]
  have hs := lst_step (c := c - cn l i) (t := sy l i) (by omega) (by omega) (by omega)
  by_cases e : c + 1 < cn l (i + 1)
  · rw [timeM_at h hi (by omega) e, show c + 1 - cn l i = c - cn l i + 1 by omega]
    omega
  · have e2 : c + 1 = cn l (i + 1) := by omega
    have e3 : c - cn l i + 1 = sx l i := by rw [cn] at e2; omega
    rw [e3] at hs
    have e4 : timeM l (c + 1) = tm l (i + 1) := by
      by_cases hn : i + 1 < l.length
      · have hm2 := musOk_at h (i + 1) hn
        rw [timeM_at h hn (by omega) (by rw [cn]; omega), e2, Int.sub_self]
        simp [lst]
      · obtain hn2 : l.length = i + 1 := by omega
        rw [timeM_end (by unfold total; rw [hn2]; omega), hn2]
    rw [e4, tm]
    omega
/-- Times rise from count to count. -/
theorem time_rise {l : List (Int × Int)} (h : musOk l = true) {c : Int} (h0 : 0 ≤ c) (h1 : c < total l) : timeM l c + 272 ≤ timeM l (c + 1) := by
  obtain ⟨i, hi, h2, h3⟩ := at_exists h0 l.length h1
  exact tm_next h hi h2 h3
theorem time_lt {l : List (Int × Int)} (h : musOk l = true) {c : Int} (h0 : 0 ≤ c) : ∀ (n : Nat), c + (n : Int) + 1 ≤ total l → timeM l c < timeM l (c + (n : Int) + 1)
  | 0, hn => by
    have := time_rise h h0 (by omega)
    simp
    omega
  | n + 1, hn => by
    have h1 := time_lt h h0 n (by omega)
    have h2 := time_rise h (c := c + (n : Int) + 1) (by omega) (by omega)
    have e : c + ((n + 1 : Nat) : Int) + 1 = c + (n : Int) + 1 + 1 := by omega
    rw [e]
    omega
theorem time_mono {l : List (Int × Int)} (h : musOk l = true) {c d : Int} (h0 : 0 ≤ c) (h1 : c < d) (h2 : d ≤ total l) : timeM l c < timeM l d := by
  have := time_lt h h0 (d - c - 1).toNat (by omega)
  rw [show c + ((d - c - 1).toNat : Int) + 1 = d by omega] at this
  exact this
theorem time_bound {l : List (Int × Int)} (h : musOk l = true) {c : Int} (h0 : 0 ≤ c) : 0 ≤ timeM l c ∧ timeM l c ≤ 720000 := by
  have hl := musOk_len h
  have hb := tm_bound h l.length (Nat.le_refl _)
  by_cases hc : c < total l
  · obtain ⟨i, hi, h2, h3⟩ := at_exists h0 l.length hc
    have hb2 := tm_bound h i (by omega)
    have hm := musOk_at h i hi
    have e : cn l (i + 1) = cn l i + sx l i := rfl
    have h4 := lst_bound (c := c - cn l i) (t := sy l i) (by omega) (by omega) (by omega) (by omega)
    rw [timeM_at h hi h2 h3]
    omega
  · rw [timeM_end (by omega)]
    omega
/-- The last count up to k that begins at a time or before. -/
def lastC (l : List (Int × Int)) (t : Int) : Nat → Int
  | 0 => 0
  | k + 1 => if timeM l ((k : Int) + 1) ≤ t then (k : Int) + 1 else lastC l t k
theorem lastC_eq {l : List (Int × Int)} (h : musOk l = true) {t : Int} {c : Nat} (h1 : timeM l c ≤ t) (h2 : t < timeM l ((c : Int) + 1)) : ∀ {n : Nat}, c ≤ n → (n : Int) ≤ total l → lastC l t n = c
  | 0, hc, _ => by rw [lastC]; omega
  | n + 1, hc, hn => by
    rw [lastC]
    by_cases e : c = n + 1
    · subst e; rw [if_pos (by exact_mod_cast h1)]; omega
    · have hm : timeM l ((c : Int) + 1) ≤ timeM l ((n : Int) + 1) := by
        by_cases e2 : c = n
        · subst e2; omega
        · have := time_mono h (c := (c : Int) + 1) (d := (n : Int) + 1) (by omega) (by omega) (by omega)
          omega
      rw [if_neg (by omega)]
      exact lastC_eq h h1 h2 (by omega) (by omega)
/-- The index of the first greatest tempo among the first k measures. -/
def fst (l : List (Int × Int)) : Nat → Nat
  | 0 => 0
  | k + 1 => if sy l (fst l k) < sy l k then k else fst l k
theorem fst_yes {l : List (Int × Int)} {k : Nat} (h : sy l (fst l k) < sy l k) : fst l (k + 1) = k := by show (if _ then _ else _) = _; rw [if_pos h]
theorem fst_no {l : List (Int × Int)} {k : Nat} (h : ¬ sy l (fst l k) < sy l k) : fst l (k + 1) = fst l k := by show (if _ then _ else _) = _; rw [if_neg h]
theorem fst_lt (l : List (Int × Int)) (h : 0 < l.length) : ∀ k, k ≤ l.length → fst l k < l.length
  | 0, _ => h
  | k + 1, hk => by
    have := fst_lt l h k (by omega)
    by_cases e : sy l (fst l k) < sy l k
    · rw [fst_yes e]; omega
    · rw [fst_no e]; exact this
theorem fst_most (l : List (Int × Int)) : ∀ k, (∀ j, j < k → sy l j ≤ sy l (fst l k)) ∧ (∀ j, j < fst l k → sy l j < sy l (fst l k)) ∧ (0 < k → fst l k < k)
  | 0 => ⟨fun j h => absurd h (Nat.not_lt_zero j), fun j h => absurd h (Nat.not_lt_zero j), fun h => absurd h (Nat.lt_irrefl 0)⟩
  | k + 1 => by
    obtain ⟨h1, h2, h3⟩ := fst_most l k
    by_cases e : sy l (fst l k) < sy l k
    · rw [fst_yes e]
      refine ⟨fun j hj => ?_, fun j hj => ?_, fun _ => by omega⟩
      · by_cases e2 : j = k
        · subst e2; omega
        · have := h1 j (by omega); omega
      · have := h1 j hj; omega
    · rw [fst_no e]
      refine ⟨fun j hj => ?_, h2, fun _ => ?_⟩
      · by_cases e2 : j = k
        · subst e2; omega
        · exact h1 j (by omega)
      · by_cases hk : 0 < k
        · have := h3 hk; omega
        · obtain rfl : k = 0 := by omega
          exact Nat.zero_lt_one
/-- The first greatest one is the only one. -/
theorem fst_eq {l : List (Int × Int)} {i n : Nat} (hi : i < n) (h1 : ∀ j, j < n → sy l j ≤ sy l i) (h2 : ∀ j, j < i → sy l j < sy l i) : fst l n = i := by
  obtain ⟨g1, g2, g3⟩ := fst_most l n
  have g4 := g3 (by omega)
  rcases Nat.lt_trichotomy (fst l n) i with h | h | h
  · have a := h2 _ h
    have b := g1 i hi
    omega
  · exact h
  · have a := g2 _ h
    have b := h1 _ g4
    omega
/-- The greatest tempo from 40 up to 39 + k with which c counts last at least t; 0 if there is none. -/
def tpo (c t : Int) : Nat → Int
  | 0 => 0
  | k + 1 => if t ≤ lst c (40 + (k : Int)) then 40 + (k : Int) else tpo c t k
theorem tpo_yes {c t : Int} {k : Nat} (h : t ≤ lst c (40 + (k : Int))) : tpo c t (k + 1) = 40 + (k : Int) := by rw [tpo, if_pos h]
theorem tpo_no {c t : Int} {k : Nat} (h : ¬ t ≤ lst c (40 + (k : Int))) : tpo c t (k + 1) = tpo c t k := by rw [tpo, if_neg h]
/-- The greatest tempo, 0 if there is none. -/
def tempoM (c t : Int) : Int := if inB 1 c 12 && inB 0 t 20000 then tpo c t 181 else 0
def hasT (c t : Int) : Bool := decide (tempoM c t ≠ 0)

end Go.Proofs.Ytbpphcdhbbhjpaa
