/- Lists of structs of two numbers: how they lie in memory. No conditions but those written in each theorem. -/
import Derived.Test.YtfimjfchdaioeaaDoorBase
import Derived.Laws.MakeOwn
import Derived.Deep.OwnRows
namespace Go.Proofs.YtfimjfchdaioeaaDoor
open Go.RowKit

/-- A list of pairs, by its numbers. -/
def sx (l : List (Int × Int)) (i : Nat) : Int := (l.getD i (0, 0)).1
def sy (l : List (Int × Int)) (i : Nat) : Int := (l.getD i (0, 0)).2
/-- A slice's elements lie there: the list l, two cells a pair. -/
def PairsAt (w : World) (a : Option Addr) (l : List (Int × Int)) : Prop :=
  ∀ i, i < l.length → ∃ b off, a = some ⟨b, off, none⟩ ∧ w.cell? ⟨b, off + i * 2, none⟩ = some (.int .i64 (sx l i)) ∧ w.cell? ⟨b, off + i * 2 + 1, none⟩ = some (.int .i64 (sy l i))
theorem PairsAt.below {w w' : World} {a : Option Addr} {l : List (Int × Int)} (h : PairsAt w a l) (hb : Below w.heap.size w w') : PairsAt w' a l := by
  intro i hi
  obtain ⟨b, off, ha, h0, h1⟩ := h i hi
  exact ⟨b, off, ha, (hb.cell (World.block_lt_of_cell? w _ h0)).trans h0, (hb.cell (World.block_lt_of_cell? w _ h1)).trans h1⟩
theorem PairsAt.nil (w : World) (a : Option Addr) : PairsAt w a [] := fun i h => absurd h (Nat.not_lt_zero i)


/-- Do all pairs keep the condition? -/
def allP (g : Int → Int → Bool) (l : List (Int × Int)) : Bool := l.all fun p => g p.1 p.2
theorem allP_true {g : Int → Int → Bool} {l : List (Int × Int)} (h : ∀ j, j < l.length → g (sx l j) (sy l j) = true) : allP g l = true := by
  unfold allP
  rw [List.all_eq_true]
  intro p hp
  obtain ⟨j, hj, rfl⟩ := List.getElem_of_mem hp
  have := h j hj
  simpa [sx, sy, List.getD_eq_getElem?_getD, List.getElem?_eq_getElem hj] using this
theorem allP_at {g : Int → Int → Bool} {l : List (Int × Int)} (h : allP g l = true) (j : Nat) (hj : j < l.length) : g (sx l j) (sy l j) = true := by
  unfold allP at h
  rw [List.all_eq_true] at h
  have := h l[j] (List.getElem_mem hj)
  simpa [sx, sy, List.getD_eq_getElem?_getD, List.getElem?_eq_getElem hj] using this
theorem allP_false {g : Int → Int → Bool} {l : List (Int × Int)} {j : Nat} (hj : j < l.length) (h : g (sx l j) (sy l j) = false) : allP g l = false := by
  cases e : allP g l with
  | false => rfl
  | true => rw [allP_at e j hj] at h; cases h
/-- Fresh cells for n pairs. -/
def zrow (n : Nat) : Array Value := madeCells #[.int .i64 0, .int .i64 0] (n * 2)
theorem zrow_get (n c : Nat) (hc : c < n * 2) : (zrow n)[c]? = some (.int .i64 0) := by
  unfold zrow madeCells
  simp [hc]
  rcases (show c % 2 = 0 ∨ c % 2 = 1 by omega) with h | h <;> simp [h]
/-- What the copy of l holds after k rounds. -/
def rowF (l : List (Int × Int)) (k c : Nat) : Value := if c < k * 2 then (if c % 2 = 0 then .int .i64 (sx l (c / 2)) else .int .i64 (sy l (c / 2))) else .int .i64 0
theorem rowF_step (l : List (Int × Int)) (k c : Nat) : rowF l (k + 1) c = if c = k * 2 + 1 then .int .i64 (sy l k) else if c = k * 2 then .int .i64 (sx l k) else rowF l k c := by
  unfold rowF
  by_cases h1 : c = k * 2 + 1
  · subst h1
    rw [if_pos (by omega), if_neg (by omega), if_pos rfl, show (k * 2 + 1) / 2 = k by omega]
  · rw [if_neg h1]
    by_cases h2 : c = k * 2
    · subst h2
      rw [if_pos (by omega), if_pos (by omega), if_pos rfl, show (k * 2) / 2 = k by omega]
    · rw [if_neg h2]
      by_cases h3 : c < k * 2
      · rw [if_pos (by omega), if_pos h3]
      · rw [if_neg (by omega), if_neg h3]
theorem row_start (ty : TypeId) (w : World) (l : List (Int × Int)) : (w.alloc (.cells (zrow l.length) ty)).rowIs w.heap.size ty (l.length * 2) (rowF l 0) :=
  ⟨zrow l.length, (MapKept.heap_alloc w _).1, by simp [zrow, size_madeCells], fun c hc => by rw [zrow_get _ _ hc]; simp [rowF]⟩
theorem row_step {ty : TypeId} {w : World} {g n k : Nat} {l : List (Int × Int)} (h : w.rowIs g ty n (rowF l k)) :
    ((w.setCell ⟨g, k * 2, none⟩ (.int .i64 (sx l k))).setCell ⟨g, k * 2 + 1, none⟩ (.int .i64 (sy l k))).rowIs g ty n (rowF l (k + 1)) :=
  ((h.set (k * 2) _).set (k * 2 + 1) _).congr fun i _ => (rowF_step l k i).symm
theorem row_pairs {ty : TypeId} {w : World} {g : Nat} {l : List (Int × Int)} (h : w.rowIs g ty (l.length * 2) (rowF l l.length)) : PairsAt w (some ⟨g, 0, none⟩) l := by
  intro i hi
  refine ⟨g, 0, rfl, ?_, ?_⟩
  · rw [h.cell (i := 0 + i * 2) (by omega)]
    unfold rowF
    rw [if_pos (by omega), if_pos (by omega), show (0 + i * 2) / 2 = i by omega]
  · rw [h.cell (i := 0 + i * 2 + 1) (by omega)]
    unfold rowF
    rw [if_pos (by omega), if_neg (by omega), show (0 + i * 2 + 1) / 2 = i by omega]

theorem PairsAt.other {w w' : World} {a : Option Addr} {l : List (Int × Int)} {r : Option Nat} (h : PairsAt w a l) (hg : w.grownBy w' r) (hne : ∀ x, a = some x → some x.block ≠ r) : PairsAt w' a l := by
  intro i hi
  obtain ⟨b, off, ha, h0, h1⟩ := h i hi
  exact ⟨b, off, ha, hg.cell h0 (fun e => hne _ ha e), hg.cell h1 (fun e => hne _ ha e)⟩
/-- The marks 1, 2, 3, .., two a pair. -/
def marks2 (n : Nat) : List (Int × Int) := (List.range n).map fun (i : Nat) => ((1 : Int) + 2 * (i : Int), (1 : Int) + 2 * (i : Int) + 1)
theorem marks2_length (n : Nat) : (marks2 n).length = n := by simp [marks2]
theorem marks2_x (n i : Nat) (h : i < n) : sx (marks2 n) i = 1 + 2 * i := by simp [marks2, sx, List.getD_eq_getElem?_getD, h]
theorem marks2_y (n i : Nat) (h : i < n) : sy (marks2 n) i = 1 + 2 * i + 1 := by simp [marks2, sy, List.getD_eq_getElem?_getD, h]
/-- The values of pairs, in the order of their cells. -/
def pairV : List (Int × Int) → List Value
  | [] => []
  | p :: r => .int .i64 p.1 :: .int .i64 p.2 :: pairV r
theorem pairV_length (l : List (Int × Int)) : (pairV l).length = l.length * 2 := by
  induction l with
  | nil => rfl
  | cons p r ih => simp [pairV, ih]; omega
theorem pairV_append (l m : List (Int × Int)) : pairV (l ++ m) = pairV l ++ pairV m := by
  induction l with
  | nil => rfl
  | cons p r ih => simp [pairV, ih]
theorem pairV_get (l : List (Int × Int)) : ∀ i, i < l.length → (pairV l)[i * 2]? = some (.int .i64 (sx l i)) ∧ (pairV l)[i * 2 + 1]? = some (.int .i64 (sy l i)) := by
  induction l with
  | nil => intro i h; exact absurd h (Nat.not_lt_zero i)
  | cons p r ih =>
    intro i h
    cases i with
    | zero => exact ⟨rfl, rfl⟩
    | succ k =>
      have := ih k (by simpa using h)
      have e1 : (k + 1) * 2 = k * 2 + 1 + 1 := by omega
      rw [e1]
      exact this
/-- The slice v owns these pairs, in a block from base on. -/
abbrev OwnPairs (ty : TypeId) (w : World) (base : Nat) (v : Value) (l : List (Int × Int)) : Prop := w.ownsRow base ty 2 v l.length (pairV l)
theorem own_formP {ty : TypeId} {w : World} {base : Nat} {v : Value} {l : List (Int × Int)} (h : OwnPairs ty w base v l) :
    (v = .slice none 0 0 ∧ l = []) ∨ ∃ g cap, v = .slice (some ⟨g, 0, none⟩) l.length cap ∧ base ≤ g ∧ g < w.heap.size := by
  have hl := World.ownsRow.lt h
  rcases h.2 with ⟨rfl, h0⟩ | ⟨g, cap, cur, rfl, hb, hh, _⟩
  · exact .inl ⟨rfl, List.length_eq_zero_iff.1 h0⟩
  · exact .inr ⟨g, cap, rfl, hb, (hl g rfl).2⟩
theorem own_pairs {ty : TypeId} {w : World} {base g cap : Nat} {l : List (Int × Int)} (h : OwnPairs ty w base (.slice (some ⟨g, 0, none⟩) l.length cap) l) : PairsAt w (some ⟨g, 0, none⟩) l := by
  intro i hi
  obtain ⟨h0, h1⟩ := pairV_get l i hi
  refine ⟨g, 0, rfl, ?_, ?_⟩
  · rw [Nat.zero_add, World.ownsRow.cellAt h (i * 2) (by omega), h0]
  · rw [Nat.zero_add, World.ownsRow.cellAt h (i * 2 + 1) (by omega), h1]
theorem own_viewP {ty : TypeId} {w : World} {base : Nat} {v : Value} {l : List (Int × Int)} (h : OwnPairs ty w base v l) :
    ∃ (a : Option Addr) (cap : Nat), v = .slice a l.length cap ∧ PairsAt w a l ∧ ∀ x, a = some x → base ≤ x.block ∧ x.block < w.heap.size := by
  rcases own_formP h with ⟨rfl, rfl⟩ | ⟨g, cap, rfl, h1, h2⟩
  · exact ⟨none, 0, rfl, PairsAt.nil _ _, fun x hx => by cases hx⟩
  · exact ⟨some ⟨g, 0, none⟩, cap, rfl, own_pairs h, fun x hx => by cases hx; exact ⟨h1, h2⟩⟩
theorem PairsAt.any {w : World} {a : Option Addr} {l : List (Int × Int)} (h : PairsAt w a l) {i : Nat} (hi : i < l.length) : ∃ b off, a = some ⟨b, off, none⟩ ∧ b < w.heap.size ∧ w.cell? ⟨b, off + i * 2, none⟩ = some (.int .i64 (sx l i)) ∧ w.cell? ⟨b, off + i * 2 + 1, none⟩ = some (.int .i64 (sy l i)) := by
  obtain ⟨b, off, ha, h0, h1⟩ := h i hi
  exact ⟨b, off, ha, World.block_lt_of_cell? w _ h0, h0, h1⟩

end Go.Proofs.YtfimjfchdaioeaaDoor
