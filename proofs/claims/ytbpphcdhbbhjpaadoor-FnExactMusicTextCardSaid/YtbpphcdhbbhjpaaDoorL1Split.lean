/- The other side's splitting of a text: a list of texts of its own. No conditions but those written in each theorem. -/
import Derived.Test.YtbpphcdhbbhjpaaDoorNum
import Derived.Deep.RegionHeld3
import Derived.Deep.DrawnRows
import Derived.IntWalk
namespace Go.Proofs.YtbpphcdhbbhjpaaDoor
open Go.RowKit


attribute [local go_sem ↓] Go.wp_at_zero Go.wp_at_succ

/-- The slice v owns these texts, in a block from base on. -/
abbrev OwnStrs (w : World) (base : Nat) (v : Value) (xs : List (List UInt8)) : Prop := w.ownsRow base 9 1 v xs.length (xs.map fun x => Value.string (bs x))
theorem own_formS {w : World} {base : Nat} {v : Value} {xs : List (List UInt8)} (h : OwnStrs w base v xs) :
    (v = .slice none 0 0 ∧ xs = []) ∨ ∃ g cap, v = .slice (some ⟨g, 0, none⟩) xs.length cap ∧ base ≤ g ∧ g < w.heap.size := by
  have hl := World.ownsRow.lt h
  rcases h.2 with ⟨rfl, h0⟩ | ⟨g, cap, cur, rfl, hb, hh, _⟩
  · exact .inl ⟨rfl, List.length_eq_zero_iff.1 h0⟩
  · exact .inr ⟨g, cap, rfl, hb, (hl g rfl).2⟩
theorem own_strs {w : World} {base g cap : Nat} {xs : List (List UInt8)} (h : OwnStrs w base (.slice (some ⟨g, 0, none⟩) xs.length cap) xs) (i : Nat) (hi : i < xs.length) : w.cell? ⟨g, i, none⟩ = some (.string (bs (xs[i]'hi))) := by
  have := World.ownsRow.cellAt h i (by omega)
  rw [this]
  simp [hi]
theorem Tryd.infoStr : (Tryd.prog.info? 9).map (fun i => (i.zero, i.size, i.bytes)) = some (some (.string ⟨#[]⟩), 1, 16) := by kernel_rfl
theorem own_stepS {w w1 w2 : World} {nb : Nat} {v v' : Value} {xs : List (List UInt8)} {x : List UInt8} (hb : Below nb w w1) (hB : nb ≤ w1.heap.size) (hown : OwnStrs w1 nb v xs)
    (hown' : w2.ownsRow nb 9 1 v' (xs.length + 1) ((xs.map fun x => Value.string (bs x)) ++ [.string (bs x)])) (hg : (w1.alloc (.cells #[.string (bs x)] 9)).grownBy w2 v.ownBlock) :
    OwnStrs w2 nb v' (xs ++ [x]) ∧ Below nb w w2 := by
  have hlt := World.ownsRow.lt hown
  exact ⟨by simpa [OwnStrs] using hown', (hb.alloc (by omega) _).grown hg (by simp; omega) (fun k hk => (hlt k hk).1)⟩
/-- What is left to split, from place k on, the present piece begun at place fr. -/
def left (b : UInt8) (l : List UInt8) (fr k : Nat) : List (List UInt8) := spl b ((l.drop fr).take (k - fr)) (l.drop k)
theorem left_zero (b : UInt8) (l : List UInt8) : left b l 0 0 = splitL b l := by unfold left splitL; simp
theorem take_more {l : List UInt8} {fr k : Nat} (hf : fr ≤ k) (h : k < l.length) : (l.drop fr).take (k + 1 - fr) = (l.drop fr).take (k - fr) ++ [l[k]'h] := by
  have e : k + 1 - fr = (k - fr) + 1 := by omega
  rw [e, List.take_add_one, List.getElem?_drop, show fr + (k - fr) = k by omega, List.getElem?_eq_getElem h]
  rfl
theorem left_hit {b : UInt8} {l : List UInt8} {fr k : Nat} (h : k < l.length) (he : l[k]'h = b) : left b l fr k = (l.drop fr).take (k - fr) :: left b l (k + 1) (k + 1) := by
  unfold left
  rw [List.drop_eq_getElem_cons h, spl, if_pos he]
  simp
theorem left_miss {b : UInt8} {l : List UInt8} {fr k : Nat} (hf : fr ≤ k) (h : k < l.length) (he : l[k]'h ≠ b) : left b l fr k = left b l fr (k + 1) := by
  unfold left
  rw [List.drop_eq_getElem_cons h, spl, if_neg he, take_more hf h]
theorem left_end {b : UInt8} {l : List UInt8} {fr : Nat} : left b l fr l.length = [l.drop fr] := by
  unfold left
  rw [List.drop_length, spl, List.take_of_length_le (by rw [List.length_drop]; exact Nat.le_refl _)]

end Go.Proofs.YtbpphcdhbbhjpaaDoor
