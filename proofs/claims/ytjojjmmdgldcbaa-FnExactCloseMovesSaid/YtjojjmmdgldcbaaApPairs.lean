/- The pairs of a list of moves, in order, and the first closest one. No conditions but those written in each theorem. -/
import Derived.Test.YtjojjmmdgldcbaaApList
import Derived.Test.YtjojjmmdgldcbaaApLs2
import Derived.Deep.RegionHeld3
import Derived.Deep.DrawnRows
import Derived.IntWalk
import Derived.StillTailTactics
import Derived.Deep.DeepCutAuto
import Derived.Deep.LoopGhost
import Derived.Lib.QuietBelow
namespace Go.Proofs.Ytjojjmmdgldcbaa
open Go.RowKit Go.Sort


attribute [local go_sem ↓] Go.wp_at_zero Go.wp_at_succ

/-- The least square of two moves of the list: as a fraction, in lowest terms, as the program has it. -/
def pN (l : List (Int × Int × Int × Int × Int)) (i k : Nat) : Int := apN (mc l i 0 - mc l k 0) (mc l i 1 - mc l k 1) (mc l i 2 - mc l k 2) (mc l i 3 - mc l k 3)
def pD (l : List (Int × Int × Int × Int × Int)) (i k : Nat) : Int := apD (mc l i 0 - mc l k 0) (mc l i 1 - mc l k 1) (mc l i 2 - mc l k 2) (mc l i 3 - mc l k 3)
def al2 (l : List (Int × Int × Int × Int × Int)) (i k : Nat) : Int := aln (mc l i 0 - mc l k 0) (mc l i 1 - mc l k 1) (mc l i 2 - mc l k 2) (mc l i 3 - mc l k 3)
def ad2 (l : List (Int × Int × Int × Int × Int)) (i k : Nat) : Int := ald (mc l i 0 - mc l k 0) (mc l i 1 - mc l k 1) (mc l i 2 - mc l k 2) (mc l i 3 - mc l k 3)
/-- Does the pair p come closer than the pair q? -/
def pLt (l : List (Int × Int × Int × Int × Int)) (p q : Nat × Nat) : Bool := fLt (pN l p.1 p.2) (pD l p.1 p.2) (pN l q.1 q.2) (pD l q.1 q.2)
/-- The pairs (i, j) with i < j < k. -/
def prow (i : Nat) : Nat → List (Nat × Nat)
  | 0 => []
  | k + 1 => if i < k then prow i k ++ [(i, k)] else prow i k
/-- All pairs below n whose first is below i. -/
def pall (n : Nat) : Nat → List (Nat × Nat)
  | 0 => []
  | i + 1 => pall n i ++ prow i n
def allP2 (n : Nat) : List (Nat × Nat) := pall n n
/-- The first closest one of some pairs and (0, 1). -/
def bst (l : List (Int × Int × Int × Int × Int)) (ps : List (Nat × Nat)) : Nat × Nat := ps.foldl (fun s p => if pLt l p s then p else s) (0, 1)
theorem prow_le {i : Nat} : ∀ {k : Nat}, k ≤ i + 1 → prow i k = []
  | 0, _ => rfl
  | k + 1, h => by
    show (if _ then _ else _) = _
    rw [if_neg (by omega)]
    exact prow_le (by omega)
theorem prow_step {i k : Nat} (h : i < k) : prow i (k + 1) = prow i k ++ [(i, k)] := by show (if _ then _ else _) = _; rw [if_pos h]
theorem prow_mem {i : Nat} {p : Nat × Nat} : ∀ {k : Nat}, p ∈ prow i k → p.1 = i ∧ i < p.2 ∧ p.2 < k
  | 0, h => by cases h
  | k + 1, h => by
    by_cases hk : i < k
    · rw [prow_step hk] at h
      rcases List.mem_append.1 h with h | h
      · have := prow_mem h
        omega
      · simp at h
        subst h
        exact ⟨rfl, hk, Nat.lt_succ_self _⟩
    · have e : prow i (k + 1) = prow i k := by show (if _ then _ else _) = _; rw [if_neg hk]
      rw [e] at h
      have := prow_mem h
      omega
theorem pall_mem {n : Nat} {p : Nat × Nat} : ∀ {i : Nat}, p ∈ pall n i → p.1 < i ∧ p.1 < p.2 ∧ p.2 < n
  | 0, h => by cases h
  | i + 1, h => by
    rcases List.mem_append.1 h with h | h
    · have := pall_mem h
      omega
    · have := prow_mem h
      omega
theorem bst_snoc (l : List (Int × Int × Int × Int × Int)) (ps : List (Nat × Nat)) (p : Nat × Nat) : bst l (ps ++ [p]) = if pLt l p (bst l ps) then p else bst l ps := by
  unfold bst
  rw [List.foldl_append]
  rfl
theorem bst_yes {l : List (Int × Int × Int × Int × Int)} {ps : List (Nat × Nat)} {p : Nat × Nat} (h : pLt l p (bst l ps) = true) : bst l (ps ++ [p]) = p := by rw [bst_snoc, if_pos h]
theorem bst_no {l : List (Int × Int × Int × Int × Int)} {ps : List (Nat × Nat)} {p : Nat × Nat} (h : pLt l p (bst l ps) = false) : bst l (ps ++ [p]) = bst l ps := by rw [bst_snoc, if_neg (by rw [h]; simp)]
/-- ClosestMoves' pair. -/
def clo (l : List (Int × Int × Int × Int × Int)) : Nat × Nat := bst l (allP2 l.length)
theorem bst_lt (l : List (Int × Int × Int × Int × Int)) {n : Nat} (hn : 2 ≤ n) : ∀ ps : List (Nat × Nat), (∀ p ∈ ps, p.1 < n ∧ p.2 < n) → (bst l ps).1 < n ∧ (bst l ps).2 < n := by
  intro ps
  unfold bst
  have : ∀ (ps : List (Nat × Nat)) (s : Nat × Nat), s.1 < n ∧ s.2 < n → (∀ p ∈ ps, p.1 < n ∧ p.2 < n) → (ps.foldl (fun s p => if pLt l p s then p else s) s).1 < n ∧ (ps.foldl (fun s p => if pLt l p s then p else s) s).2 < n := by
    intro ps
    induction ps with
    | nil => intro s hs _; exact hs
    | cons p r ih =>
      intro s hs hp
      refine ih _ ?_ (fun q hq => hp q (List.mem_cons_of_mem _ hq))
      show (if _ then _ else _ : Nat × Nat).1 < n ∧ (if _ then _ else _ : Nat × Nat).2 < n
      split
      · exact hp p List.mem_cons_self
      · exact hs
  exact fun hp => this ps (0, 1) ⟨by show 0 < n; omega, by show 1 < n; omega⟩ hp
theorem clo_lt {l : List (Int × Int × Int × Int × Int)} (h : 2 ≤ l.length) : (clo l).1 < l.length ∧ (clo l).2 < l.length :=
  bst_lt l h _ (fun p hp => by have := pall_mem hp; omega)
/-- Two moves of the list: their ways from each other, and the fraction. -/
theorem gt2_way {l : List (Int × Int × Int × Int × Int)} {i k : Nat} (h : gt2 l i k = true) : wayOk (mc l i 0 - mc l k 0) (mc l i 1 - mc l k 1) (mc l i 2 - mc l k 2) (mc l i 3 - mc l k 3) ∧ IntKind.i64.wrap (mc l i 0 - mc l k 0) = mc l i 0 - mc l k 0 ∧ IntKind.i64.wrap (mc l i 1 - mc l k 1) = mc l i 1 - mc l k 1 ∧ IntKind.i64.wrap (mc l i 2 - mc l k 2) = mc l i 2 - mc l k 2 ∧ IntKind.i64.wrap (mc l i 3 - mc l k 3) = mc l i 3 - mc l k 3 := by
  obtain ⟨h1, _, _, h2, h3, h4, h5⟩ := gtog_way h
  exact ⟨h1, h2, h3, h4, h5⟩
theorem al2_bd {l : List (Int × Int × Int × Int × Int)} {i k : Nat} (h : gt2 l i k = true) : (0 ≤ al2 l i k ∧ al2 l i k ≤ 2959500902400) ∧ 0 < ad2 l i k ∧ ad2 l i k ≤ 8359936 ∧ ∃ c : Int, 0 < c ∧ pN l i k = al2 l i k * c ∧ pD l i k = ad2 l i k * c := low_bd (gt2_way h).1
theorem pLt_low {l : List (Int × Int × Int × Int × Int)} {i k f s : Nat} (h1 : gt2 l i k = true) (h2 : gt2 l f s = true) : fLt (al2 l i k) (ad2 l i k) (al2 l f s) (ad2 l f s) = pLt l (i, k) (f, s) := by
  obtain ⟨_, _, _, c, c0, e1, e2⟩ := al2_bd h1
  obtain ⟨_, _, _, d, d0, e3, e4⟩ := al2_bd h2
  unfold pLt
  rw [e1, e2, e3, e4, fLt_mul c0 d0]

end Go.Proofs.Ytjojjmmdgldcbaa
