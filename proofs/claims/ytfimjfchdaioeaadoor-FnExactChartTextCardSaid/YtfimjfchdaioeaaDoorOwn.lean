/- Lists of pairs of one's own: copies, stores, parts. No conditions but those written in each theorem. -/
import Derived.Test.YtfimjfchdaioeaaDoorPairs
import Derived.Deep.DrawnRows
namespace Go.Proofs.YtfimjfchdaioeaaDoor
open Go.RowKit


theorem pairV_one : ∀ (l : List (Int × Int)), ∀ u ∈ pairV l, u.oneCell' = true
  | [] => fun u hu => by simp [pairV] at hu
  | p :: r => fun u hu => by
    simp only [pairV, List.mem_cons] at hu
    rcases hu with rfl | rfl | hu
    · rfl
    · rfl
    · exact pairV_one r u hu
theorem pairs_cells {w : World} {b off : Nat} {l : List (Int × Int)} (h : PairsAt w (some ⟨b, off, none⟩) l) (j : Nat) (u : Value) (hj : (pairV l)[j]? = some u) : w.cell? ⟨b, off + j, none⟩ = some u := by
  have hlt : j < l.length * 2 := by
    have := (List.getElem?_eq_some_iff.1 hj).1
    rwa [pairV_length] at this
  obtain ⟨b', off', e, h0, h1⟩ := h (j / 2) (by omega)
  obtain ⟨g0, g1⟩ := pairV_get l (j / 2) (by omega)
  simp only [Option.some.injEq, Addr.mk.injEq] at e
  obtain ⟨rfl, rfl, _⟩ := e
  by_cases hp : j % 2 = 0
  · have e2 : j / 2 * 2 = j := by omega
    rw [e2] at g0 h0
    rw [g0] at hj
    cases hj
    exact h0
  · have e2 : j / 2 * 2 + 1 = j := by omega
    rw [e2] at g1
    rw [show off + j / 2 * 2 + 1 = off + j by omega] at h1
    rw [g1] at hj
    cases hj
    exact h1
theorem PairsAt.some_of {w : World} {a : Option Addr} {l : List (Int × Int)} (h : PairsAt w a l) (hl : 1 ≤ l.length) : ∃ b off, a = some ⟨b, off, none⟩ := by
  obtain ⟨b, off, e, _⟩ := h 0 hl
  exact ⟨b, off, e⟩
theorem PairsAt.alloc {w : World} {a : Option Addr} {l : List (Int × Int)} (h : PairsAt w a l) (o : Obj) : PairsAt (w.alloc o) a l := h.below ((Below.refl _ _).alloc (Nat.le_refl _) _)
theorem own_nil (ty : TypeId) (w : World) (base : Nat) : OwnPairs ty w base (.slice none 0 0) [] := ⟨rfl, .inl ⟨rfl, rfl⟩⟩
/-- One field of a pair is set. -/
def setY (l : List (Int × Int)) (i : Nat) (t : Int) : List (Int × Int) := l.set i (sx l i, t)
theorem setY_length (l : List (Int × Int)) (i : Nat) (t : Int) : (setY l i t).length = l.length := by simp [setY]
theorem pairV_setY : ∀ (l : List (Int × Int)) (i : Nat) (t : Int), pairV (setY l i t) = (pairV l).set (i * 2 + 1) (.int .i64 t)
  | [], i, t => by simp [setY, pairV]
  | p :: r, 0, t => rfl
  | p :: r, k + 1, t => by
    have h := pairV_setY r k t
    have e : (k + 1) * 2 + 1 = k * 2 + 1 + 1 + 1 := by omega
    have e2 : setY (p :: r) (k + 1) t = p :: setY r k t := rfl
    rw [e2, e]
    simp only [pairV, List.set_cons_succ, h]
/-- The second field is set in k pairs from f on. -/
def upT (l : List (Int × Int)) (t : Int) (f : Nat) : Nat → List (Int × Int)
  | 0 => l
  | k + 1 => setY (upT l t f k) (f + k) t
theorem upT_length (l : List (Int × Int)) (t : Int) (f : Nat) : ∀ k, (upT l t f k).length = l.length
  | 0 => rfl
  | k + 1 => by rw [upT, setY_length, upT_length l t f k]
/-- What a list of pairs of one's own becomes when one field is stored. -/
theorem own_setY {ty : TypeId} {w : World} {base g cap n : Nat} {l : List (Int × Int)} (h : w.ownsRow base ty 2 (.slice (some ⟨g, 0, none⟩) n cap) n (pairV l)) (i : Nat) (t : Int) :
    (w.setCell ⟨g, i * 2 + 1, none⟩ (.int .i64 t)).ownsRow base ty 2 (.slice (some ⟨g, 0, none⟩) n cap) n (pairV (setY l i t)) ∧ w.grownBy (w.setCell ⟨g, i * 2 + 1, none⟩ (.int .i64 t)) (some g) := by
  have hst := h.stored (i * 2 + 1) (.int .i64 t)
  rw [pairV_setY]
  exact hst

end Go.Proofs.YtfimjfchdaioeaaDoor
