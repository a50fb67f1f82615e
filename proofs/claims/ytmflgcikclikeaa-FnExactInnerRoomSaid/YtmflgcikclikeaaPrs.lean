/- The pairs of numbers below n, in order. No conditions. -/
import Derived.Test.YtmflgcikclikeaaBase
namespace Go.Proofs.Ytmflgcikclikeaa
open Go.RowKit


/-- The pairs (i, j) with i < j < k. -/
def prow (i : Nat) : Nat → List (Nat × Nat)
  | 0 => []
  | k + 1 => if i < k then prow i k ++ [(i, k)] else prow i k
/-- All pairs below n whose first is below i. -/
def pall (n : Nat) : Nat → List (Nat × Nat)
  | 0 => []
  | i + 1 => pall n i ++ prow i n
def allP2 (n : Nat) : List (Nat × Nat) := pall n n
theorem prow_le {i : Nat} : ∀ {k : Nat}, k ≤ i + 1 → prow i k = []
  | 0, _ => rfl
  | k + 1, h => by
    show (if _ then _ else _) = _
    rw [if_neg (by omega)]
    exact prow_le (by omega)
theorem prow_step {i k : Nat} (h : i < k) : prow i (k + 1) = prow i k ++ [(i, k)] := by show (if _ then _ else _) = _; rw [if_pos h]
theorem prow_mem {i : Nat} {p : Nat × Nat} : ∀ {k : Nat}, p ∈ prow i k → p.1 = i ∧ i < p.2 ∧ p.2 < k
  | 0, h => by cases h
  | k + 1, h => by
    by_cases hk : i < k
    · rw [prow_step hk] at h
      rcases List.mem_append.1 h with h | h
      · have := prow_mem h
        omega
      · simp at h
        subst h
        exact ⟨rfl, hk, Nat.lt_succ_self _⟩
    · have e : prow i (k + 1) = prow i k := by show (if _ then _ else _) = _; rw [if_neg hk]
      rw [e] at h
      have := prow_mem h
      omega
theorem pall_mem {n : Nat} {p : Nat × Nat} : ∀ {i : Nat}, p ∈ pall n i → p.1 < i ∧ p.1 < p.2 ∧ p.2 < n
  | 0, h => by cases h
  | i + 1, h => by
    rcases List.mem_append.1 h with h | h
    · have := pall_mem h
      omega
    · have := prow_mem h
      omega

end Go.Proofs.Ytmflgcikclikeaa
