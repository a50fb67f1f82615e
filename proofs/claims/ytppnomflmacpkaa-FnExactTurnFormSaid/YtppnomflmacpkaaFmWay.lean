/- Spots along ways from corner to corner: plain mathematics. No conditions but those written in each theorem. -/
import Derived.Test.YtppnomflmacpkaaFmBet
import Derived.Test.YtppnomflmacpkaaChIf
namespace Go.Proofs.Ytppnomflmacpkaa
open Go.RowKit


/-- A number that divides the way, at least 1. -/
def wholeN (n : Nat) : Nat := max 1 (n - 1)
/-- How many whole ways the k-th of n spots has gone. -/
def segI (l : List (Int × Int)) (n k : Nat) : Nat := min (k * (l.length - 1) / wholeN n) (l.length - 2)
/-- What part of the next way it has gone. -/
def segR (l : List (Int × Int)) (n k : Nat) : Nat := k * (l.length - 1) - segI l n k * wholeN n
/-- The k-th of n spots along the ways. -/
def wayP (l : List (Int × Int)) (n k : Nat) : Int × Int :=
  (bet (sx l (segI l n k)) (sx l (segI l n k + 1)) (segR l n k) (wholeN n), bet (sy l (segI l n k)) (sy l (segI l n k + 1)) (segR l n k) (wholeN n))
/-- The first k of n spots along the ways. -/
def wayTo (l : List (Int × Int)) (n k : Nat) : List (Int × Int) := (List.range k).map (wayP l n)
theorem wayTo_length (l : List (Int × Int)) (n k : Nat) : (wayTo l n k).length = k := by simp [wayTo]
theorem wayTo_step (l : List (Int × Int)) (n k : Nat) : wayTo l n (k + 1) = wayTo l n k ++ [wayP l n k] := by simp [wayTo, List.range_succ]
theorem wholeN_bound {n : Nat} (h : n ≤ 12) : 1 ≤ wholeN n ∧ wholeN n ≤ 11 := by unfold wholeN; omega
theorem seg_bound {l : List (Int × Int)} {n k : Nat} (h2 : 2 ≤ l.length) (h8 : l.length ≤ 8) (hk : k ≤ 12) : segI l n k + 1 < l.length ∧ segI l n k * wholeN n ≤ k * (l.length - 1) ∧ segR l n k ≤ 84 ∧ k * (l.length - 1) ≤ 84 := by
  have h1 : segI l n k ≤ l.length - 2 := by unfold segI; omega
  have h3 : segI l n k ≤ k * (l.length - 1) / wholeN n := by unfold segI; omega
  have h4 : k * (l.length - 1) / wholeN n * wholeN n ≤ k * (l.length - 1) := Nat.div_mul_le_self _ _
  have h5 : segI l n k * wholeN n ≤ k * (l.length - 1) / wholeN n * wholeN n := Nat.mul_le_mul_right _ h3
  have h6 : k * (l.length - 1) ≤ 12 * 7 := Nat.mul_le_mul hk (by omega)
  refine ⟨by omega, by omega, ?_, by omega⟩
  unfold segR
  omega
theorem bet_zero (a b : Int) : bet a b 0 1 = a := by unfold bet rnd; omega
/-- One spot alone is the first corner. -/
theorem way_one (l : List (Int × Int)) : wayTo l 1 1 = [(sx l 0, sy l 0)] := by
  have e1 : segI l 1 0 = 0 := by unfold segI; simp
  have e2 : segR l 1 0 = 0 := by unfold segR; simp
  have e3 : wholeN 1 = 1 := rfl
  simp only [wayTo, List.range_one, List.map_cons, List.map_nil, wayP, e1, e2, e3]
  rw [show ((0 : Nat) : Int) = 0 from rfl, show ((1 : Nat) : Int) = 1 from rfl, bet_zero, bet_zero]
/-- Along one way. -/
theorem wayP_two (x1 y1 x2 y2 : Int) (n k : Nat) : wayP [(x1, y1), (x2, y2)] n k = (bet x1 x2 k (wholeN n), bet y1 y2 k (wholeN n)) := by
  have e1 : segI [(x1, y1), (x2, y2)] n k = 0 := by unfold segI; simp
  have e2 : segR [(x1, y1), (x2, y2)] n k = k := by unfold segR; rw [e1]; simp
  simp only [wayP, e1, e2]
  rfl
/-- The line's spots, if they are told. -/
def lineOk (x1 y1 x2 y2 n : Int) : Bool := (onField x1 y1 && onField x2 y2) && inB 1 n 12
def lineL (x1 y1 x2 y2 n : Int) : List (Int × Int) := if lineOk x1 y1 x2 y2 n then wayTo [(x1, y1), (x2, y2)] n.toNat n.toNat else []

end Go.Proofs.Ytppnomflmacpkaa
