/- Lists of numbers that a call makes: comparison, marks. No conditions but those written in each theorem. -/
import Derived.Test.YtmflgcikclikeaaUtil
import Derived.Laws.OwnMore
import Derived.OwnWalk
import Derived.Deep.OwnRows
namespace Go.Proofs.Ytmflgcikclikeaa
open Go.RowKit

/-- A slice's elements lie there: the numbers xs. -/
def IntsAt (w : World) (a : Option Addr) (xs : List Int) : Prop :=
  ∀ i, i < xs.length → ∃ b off, a = some ⟨b, off, none⟩ ∧ w.cell? ⟨b, off + i, none⟩ = some (.int .i64 (xs.getD i 0))
theorem IntsAt.below {w w' : World} {a : Option Addr} {xs : List Int} (h : IntsAt w a xs) (hb : Below w.heap.size w w') : IntsAt w' a xs := by
  intro i hi
  obtain ⟨b, off, ha, h0⟩ := h i hi
  exact ⟨b, off, ha, (hb.cell (World.block_lt_of_cell? w _ h0)).trans h0⟩
theorem IntsAt.other {w w' : World} {a : Option Addr} {xs : List Int} {g : Nat} (h : IntsAt w a xs) (hg : w.grownBy w' (some g)) (hne : ∀ x, a = some x → x.block ≠ g) : IntsAt w' a xs := by
  intro i hi
  obtain ⟨b, off, ha, h0⟩ := h i hi
  exact ⟨b, off, ha, hg.cell h0 (fun e => hne _ ha (Option.some.inj e))⟩

/-- The slice v owns the numbers xs, in a block from base on. -/
abbrev OwnInts (w : World) (base : Nat) (v : Value) (xs : List Int) : Prop := w.ownsRow base 3 1 v xs.length (xs.map (Value.int .i64))
theorem own_formI {w : World} {base : Nat} {v : Value} {xs : List Int} (h : OwnInts w base v xs) :
    (v = .slice none 0 0 ∧ xs = []) ∨ ∃ g cap, v = .slice (some ⟨g, 0, none⟩) xs.length cap ∧ base ≤ g ∧ g < w.heap.size := by
  have hl := World.ownsRow.lt h
  rcases h.2 with ⟨rfl, h0⟩ | ⟨g, cap, cur, rfl, hb, hh, _⟩
  · exact .inl ⟨rfl, List.length_eq_zero_iff.1 h0⟩
  · exact .inr ⟨g, cap, rfl, hb, (hl g rfl).2⟩
theorem own_ints {w : World} {base g cap : Nat} {xs : List Int} (h : OwnInts w base (.slice (some ⟨g, 0, none⟩) xs.length cap) xs) : IntsAt w (some ⟨g, 0, none⟩) xs := by
  intro i hi
  refine ⟨g, 0, rfl, ?_⟩
  rw [Nat.zero_add, World.ownsRow.cellAt h i (by omega)]
  simp [List.getD_eq_getElem?_getD, hi]
/-- The marks 1, 2, 3, .. -/
def ones (n : Nat) : List Int := (List.range n).map fun (i : Nat) => (1 : Int) + (i : Int)
theorem ones_length (n : Nat) : (ones n).length = n := by simp [ones]
theorem ones_get (n i : Nat) (h : i < n) : (ones n).getD i 0 = 1 + i := by simp [ones, List.getD_eq_getElem?_getD, h]

theorem set_markI (ys : List Value) (k : Nat) (u : Value) (h : k < ys.length) (hp : ∀ j, j < k → ys[j]? = some (.int .i64 (1 + (j : Int)))) (hu : u = .int .i64 (1 + (k : Int))) :
    ∀ j, j < k + 1 → (ys.set k u)[j]? = some (.int .i64 (1 + (j : Int))) := by
  intro j hj
  rw [List.getElem?_set]
  by_cases e : k = j
  · subst e
    rw [if_pos rfl, if_pos h, hu]
  · rw [if_neg e]
    exact hp j (by omega)
theorem own_viewI {w : World} {base : Nat} {v : Value} {xs : List Int} (h : OwnInts w base v xs) :
    ∃ (a : Option Addr) (cap : Nat), v = .slice a xs.length cap ∧ IntsAt w a xs ∧ ∀ x, a = some x → base ≤ x.block ∧ x.block < w.heap.size := by
  rcases own_formI h with ⟨rfl, rfl⟩ | ⟨g, cap, rfl, h1, h2⟩
  · exact ⟨none, 0, rfl, fun i hi => absurd hi (Nat.not_lt_zero i), fun x hx => by cases hx⟩
  · exact ⟨some ⟨g, 0, none⟩, cap, rfl, own_ints h, fun x hx => by cases hx; exact ⟨h1, h2⟩⟩
theorem ints_other {w w' : World} {a : Option Addr} {xs : List Int} {r : Option Nat} (h : IntsAt w a xs) (hg : w.grownBy w' r) (hne : ∀ x, a = some x → some x.block ≠ r) : IntsAt w' a xs := by
  intro i hi
  obtain ⟨b, off, ha, h0⟩ := h i hi
  exact ⟨b, off, ha, hg.cell h0 (fun e => hne _ ha e)⟩
theorem Try.infoInt : (Try.prog.info? 3).map (fun i => (i.zero, i.size, i.bytes)) = some (some (.int .i64 0), 1, 8) := by kernel_rfl
theorem own_stepI {w w1 w2 : World} {base nb : Nat} {v v' : Value} {xs : List Int} {n : Int} (hb : Below base w w1) (hB : nb ≤ w1.heap.size) (hbn : base ≤ nb) (hown : OwnInts w1 nb v xs)
    (hown' : w2.ownsRow nb 3 1 v' (xs.length + 1) (xs.map (Value.int .i64) ++ [.int .i64 n])) (hg : (w1.alloc (.cells #[.int .i64 n] 3)).grownBy w2 v.ownBlock) :
    OwnInts w2 nb v' (xs ++ [n]) ∧ Below base w w2 ∧ (∀ b o u, b < nb → w1.cell? ⟨b, o, none⟩ = some u → w2.cell? ⟨b, o, none⟩ = some u) ∧ w1.heap.size < w2.heap.size := by
  have hlt := World.ownsRow.lt hown
  refine ⟨by simpa [OwnInts] using hown', (hb.alloc (by omega) _).grown hg (by simp; omega) (fun k hk => Nat.le_trans hbn (hlt k hk).1), fun b o u hbb hc => hg.cell ?_ (fun e => by have := (hlt b e.symm).1; omega), ?_⟩
  · rw [World.cell?_alloc_past _ _ _ (World.block_lt_of_cell? w1 _ hc)]
    exact hc
  · have := hg.size
    simp at this
    omega

end Go.Proofs.Ytmflgcikclikeaa
