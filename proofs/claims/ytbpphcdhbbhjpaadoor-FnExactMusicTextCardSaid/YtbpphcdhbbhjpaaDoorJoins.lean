/- Texts that are joined, by the library. No conditions but those written in each theorem. -/
import Derived.Test.YtbpphcdhbbhjpaaDoorShelf
import Derived.Test.YtbpphcdhbbhjpaaDoorNum
import Derived.Test.YtbpphcdhbbhjpaaDoorL1Split
import Derived.Lib.Join
namespace Go.Proofs.YtbpphcdhbbhjpaaDoor
open Go.RowKit


theorem joinTail_snoc (sep y : List UInt8) (r : List (List UInt8)) : Lib.joinTail sep (r ++ [y]) = Lib.joinTail sep r ++ (sep ++ y) := by simp [Lib.joinTail]
theorem join_snoc (sep y : List UInt8) {xs : List (List UInt8)} (h : xs ≠ []) : Lib.join (xs ++ [y]) sep = Lib.join xs sep ++ (sep ++ y) := by
  cases xs with
  | nil => exact absurd rfl h
  | cons x r => rw [List.cons_append, Lib.join_cons, Lib.join_cons, joinTail_snoc, List.append_assoc]
theorem joinT_any {w : World} {base : Nat} {v : Value} {xs : List (List UInt8)} (ho : OwnStrs w base v xs) (hx : 1 ≤ xs.length) (hl : xs.length ≤ 1048576) (sep r : List UInt8) (hr : Lib.join xs sep = r) (hlen : r.length ≤ 1000000000) :
    Calls Tryd.prog 14 #[v, .string (bs sep)] w fun e w' => e = .returned (.string (bs r)) ∧ Below w.heap.size w w' := by
  have hcap : ∀ g cap, v = .slice (some ⟨g, 0, none⟩) xs.length cap → xs.length ≤ cap := by
    intro g cap e
    rcases ho.2 with ⟨rfl, _⟩ | ⟨g', cap', cur, e', _, _, hc, _⟩
    · cases e
    · rw [e'] at e; cases e; exact hc
  rcases own_formS ho with ⟨rfl, e0⟩ | ⟨g, cap, rfl, hg, hg2⟩
  · rw [e0] at hx; exact absurd hx (by simp)
  have e1 : (xs.map bs).map (·.data.toList) = xs := by
    rw [List.map_map]
    exact (List.map_congr_left (fun x _ => rfl)).trans (List.map_id xs)
  have h := Tryd.strings_Join g 0 cap (xs.map bs) (bs sep) w (fun j x hj => by
    rw [List.getElem?_map] at hj
    cases hx : xs[j]? with
    | none => rw [hx] at hj; cases hj
    | some y =>
      rw [hx] at hj
      cases hj
      obtain ⟨hj2, rfl⟩ := List.getElem?_eq_some_iff.1 hx
      rw [Nat.zero_add]
      exact own_strs ho j hj2) hg2 (by rw [List.length_map]; omega) (by rw [List.length_map]; exact hcap g cap rfl) (by rw [e1, bs_list, hr]; omega)
  rw [List.length_map, e1, bs_list, hr] at h
  exact h

end Go.Proofs.YtbpphcdhbbhjpaaDoor
