/- Insertion sorts of places, step by step: plain mathematics. No conditions but those written in each theorem. -/
import Derived.Test.YtfimjfchdaioeaaPairs
namespace Go.Proofs.Ytfimjfchdaioeaa
open Go.RowKit


/-- Is one place ahead of another one, by X, then by Y? -/
def ltP (p q : Int × Int) : Prop := p.1 < q.1 ∨ (p.1 = q.1 ∧ p.2 < q.2)
instance (p q : Int × Int) : Decidable (ltP p q) := by unfold ltP; infer_instance
/-- What a comparison of two places gives. -/
def cmpI (a b : Int) : Int := if a < b then -1 else if b < a then 1 else 0
def cmpP (p q : Int × Int) : Int := if cmpI p.1 q.1 = 0 then cmpI p.2 q.2 else cmpI p.1 q.1
theorem cmpP_lt (p q : Int × Int) : cmpP p q < 0 ↔ ltP p q := by
  unfold cmpP cmpI ltP
  split <;> (try split) <;> (try split) <;> (try split) <;> omega
theorem cmpI_bound (a b : Int) : -1 ≤ cmpI a b ∧ cmpI a b ≤ 1 := by unfold cmpI; split <;> (try split) <;> omega
theorem cmpP_bound (p q : Int × Int) : -1 ≤ cmpP p q ∧ cmpP p q ≤ 1 := by unfold cmpP; split <;> exact cmpI_bound _ _
theorem ltP_asymm {p q : Int × Int} (h : ltP p q) : ¬ ltP q p := by unfold ltP at *; omega
theorem ltP_ntrans {p q r : Int × Int} (h1 : ¬ ltP p q) (h2 : ¬ ltP q r) : ¬ ltP p r := by unfold ltP at *; omega
theorem ltP_anti {p q : Int × Int} (h1 : ¬ ltP p q) (h2 : ¬ ltP q p) : p = q := by
  unfold ltP at *
  exact Prod.ext (by omega) (by omega)
section
variable {α : Type} [Inhabited α] (K : α → Int × Int)
/-- The element at a place of a list. -/
def eat (d : List α) (a : Nat) : α := d.getD a default
/-- The first elements, up to number i, are in order, but for that with number j. -/
def Ord (d : List α) (i j : Nat) : Prop := ∀ a b, a < b → b ≤ i → b ≠ j → ¬ ltP (K (eat d b)) (K (eat d a))
/-- Two neighbours change their places. -/
def swp (d : List α) (j : Nat) : List α := (d.set j (eat d (j - 1))).set (j - 1) (eat d j)
omit [Inhabited α] in
theorem getD_set' (d : List α) (i j : Nat) (x z : α) (hi : i < d.length) : (d.set i x).getD j z = if j = i then x else d.getD j z := by
  rw [List.getD_eq_getElem?_getD, List.getD_eq_getElem?_getD, List.getElem?_set]
  by_cases e : i = j
  · subst e; simp [hi]
  · rw [if_neg e, if_neg (fun h => e h.symm)]
theorem swp_at (d : List α) {j : Nat} (h0 : 0 < j) (hj : j < d.length) (a : Nat) : eat (swp d j) a = if a = j - 1 then eat d j else if a = j then eat d (j - 1) else eat d a := by
  unfold swp
  show List.getD _ a default = _
  rw [getD_set' _ _ _ _ _ (by rw [List.length_set]; omega), getD_set' _ _ _ _ _ hj]
  rfl
theorem swp_length (d : List α) (j : Nat) : (swp d j).length = d.length := by simp [swp]
theorem swp_perm : ∀ (d : List α) (k : Nat), k + 1 < d.length → (swp d (k + 1)).Perm d
  | [], k, h => absurd h (Nat.not_lt_zero _)
  | [x], k, h => by simp at h
  | x :: y :: r, 0, _ => List.Perm.swap x y r
  | x :: y :: r, k + 1, h => by
    have ih := swp_perm (y :: r) k (by simp at h ⊢; omega)
    have e : swp (x :: y :: r) (k + 1 + 1) = x :: swp (y :: r) (k + 1) := by
      unfold swp eat
      simp
    rw [e]
    exact List.Perm.cons x ih
variable {K}
theorem Ord.swap {d : List α} {i j : Nat} (h : Ord K d i j) (h0 : 0 < j) (hji : j ≤ i) (hi : i < d.length) (hlt : ltP (K (eat d j)) (K (eat d (j - 1)))) : Ord K (swp d j) i (j - 1) := by
  intro a b hab hbi hbj
  rw [swp_at d h0 (by omega), swp_at d h0 (by omega), if_neg hbj]
  by_cases e1 : b = j
  · rw [if_pos e1]
    by_cases e2 : a = j - 1
    · rw [if_pos e2]; exact ltP_asymm hlt
    · rw [if_neg e2, if_neg (by omega)]; exact h a (j - 1) (by omega) (by omega) (by omega)
  · rw [if_neg e1]
    by_cases e2 : a = j - 1
    · rw [if_pos e2]
      by_cases e3 : b < j
      · omega
      · exact h j b (by omega) hbi (by omega)
    · rw [if_neg e2]
      by_cases e3 : a = j
      · rw [if_pos e3]; exact h (j - 1) b (by omega) hbi e1
      · rw [if_neg e3]; exact h a b hab hbi e1
theorem Ord.stop {d : List α} {i j : Nat} (h : Ord K d i j) (hji : j ≤ i) (hs : j = 0 ∨ ¬ ltP (K (eat d j)) (K (eat d (j - 1)))) : Ord K d i (i + 1) := by
  intro a b hab hbi _
  by_cases e : b = j
  · subst e
    rcases hs with hs | hs
    · omega
    · by_cases e2 : a = b - 1
      · rw [e2]; exact hs
      · exact ltP_ntrans hs (h a (b - 1) (by omega) (by omega) (by omega))
  · exact h a b hab hbi e
theorem Ord.next {d : List α} {i : Nat} (h : Ord K d i (i + 1)) : Ord K d (i + 1) (i + 1) := fun a b hab hbi hbj => h a b hab (by omega) (by omega)
theorem Ord.start (d : List α) : Ord K d 0 (0 + 1) := fun a b hab hbi _ => by omega
theorem Ord.sorted {d : List α} {i : Nat} (h : Ord K d i (i + 1)) (hi : d.length ≤ i + 1) : d.Pairwise (fun x y => ¬ ltP (K y) (K x)) := by
  rw [List.pairwise_iff_getElem]
  intro a b ha hb hab
  have := h a b hab (by omega) (by omega)
  unfold eat at this
  rw [List.getD_eq_getElem?_getD, List.getD_eq_getElem?_getD, List.getElem?_eq_getElem ha, List.getElem?_eq_getElem hb] at this
  exact this
end
/-- The places of a list in order. -/
def srtL (l : List (Int × Int)) : List (Int × Int) := l.mergeSort (fun x y => decide (¬ ltP y x))
theorem srtL_perm (l : List (Int × Int)) : (srtL l).Perm l := List.mergeSort_perm _ _
theorem srtL_sorted (l : List (Int × Int)) : (srtL l).Pairwise (fun x y => ¬ ltP y x) := by
  have h := List.pairwise_mergeSort (le := fun x y : Int × Int => decide (¬ ltP y x)) (fun a b c h1 h2 => by simp only [decide_eq_true_eq] at *; exact ltP_ntrans h2 h1) (fun a b => by
    by_cases e : ltP b a
    · simp [e, ltP_asymm e]
    · simp [e]) l
  exact h.imp (fun h => by simpa using h)
theorem srt_unique {l d : List (Int × Int)} (hp : d.Perm l) (hs : d.Pairwise (fun x y => ¬ ltP y x)) : d = srtL l :=
  List.Perm.eq_of_pairwise (fun a b _ _ h1 h2 => ltP_anti h2 h1) hs (srtL_sorted l) (hp.trans (srtL_perm l).symm)
/-- The numbers of the places of a list in their order. -/
def pt (l : List (Int × Int)) (i : Nat) : Int × Int := (sx l i, sy l i)
def ordN (l : List (Int × Int)) : List Nat := (List.range l.length).mergeSort (fun x y => decide (¬ ltP (pt l y) (pt l x)))
theorem ordN_perm (l : List (Int × Int)) : (ordN l).Perm (List.range l.length) := List.mergeSort_perm _ _
theorem ordN_sorted (l : List (Int × Int)) : (ordN l).Pairwise (fun x y => ¬ ltP (pt l y) (pt l x)) := by
  have h := List.pairwise_mergeSort (le := fun x y : Nat => decide (¬ ltP (pt l y) (pt l x))) (fun a b c h1 h2 => by simp only [decide_eq_true_eq] at *; exact ltP_ntrans h2 h1) (fun a b => by
    by_cases e : ltP (pt l b) (pt l a)
    · simp [e, ltP_asymm e]
    · simp [e]) (List.range l.length)
  exact h.imp (fun h => by simpa using h)
theorem pt_get {l : List (Int × Int)} {i : Nat} (h : i < l.length) : pt l i = l[i] := by
  unfold pt sx sy
  rw [List.getD_eq_getElem?_getD, List.getElem?_eq_getElem h]
  rfl
theorem ord_unique {l : List (Int × Int)} (hn : l.Nodup) {d : List Nat} (hp : d.Perm (List.range l.length)) (hs : d.Pairwise (fun x y => ¬ ltP (pt l y) (pt l x))) : d = ordN l :=
  List.Perm.eq_of_pairwise (fun a b ha hb h1 h2 => by
    have ha' := List.mem_range.1 ((hp.mem_iff).1 ha)
    have hb' := List.mem_range.1 (((ordN_perm l).mem_iff).1 hb)
    have e := ltP_anti h2 h1
    rw [pt_get ha', pt_get hb'] at e
    exact (List.getElem_inj hn).1 e) hs (ordN_sorted l) (hp.trans (ordN_perm l).symm)

end Go.Proofs.Ytfimjfchdaioeaa
