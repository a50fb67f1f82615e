/- Lists of lists of numbers that a call makes: rows, comparison, marks. No conditions but those written in each theorem. -/
import Derived.Test.YtmflgcikclikeaaInts
import Derived.Laws.OwnMore
import Derived.OwnWalk
import Derived.Deep.OwnRows
import Derived.Deep.RegionHeld3
import Derived.Deep.DrawnRows
import Derived.IntWalk
import Derived.Lib.QuietBelow
namespace Go.Proofs.Ytmflgcikclikeaa
open Go.RowKit Go.Sort


attribute [local go_sem ↓] Go.wp_at_zero Go.wp_at_succ

theorem Try.infoInts : (Try.prog.info? 48).map (fun i => (i.zero, i.size, i.bytes)) = some (some (.slice none 0 0), 1, 24) := by kernel_rfl
/-- Rows of numbers, each in a block of its own. -/
def RowsOK (w : World) (base : Nat) (Z : List (Value × List Int)) : Prop := (∀ z ∈ Z, OwnInts w base z.1 z.2) ∧ Z.Pairwise (fun z z' => ∀ g, z.1.ownBlock = some g → z'.1.ownBlock ≠ some g)
/-- The slice v owns a list of rows of numbers. -/
def OwnZ (w : World) (base : Nat) (v : Value) (Z : List (Value × List Int)) : Prop := w.ownsRow base 48 1 v Z.length (Z.map Prod.fst) ∧ RowsOK w base Z
theorem rows_ne {w : World} {b b' : Nat} {u v : Value} {n n' : Nat} {xs ys : List Value} (h : w.ownsRow b 3 1 u n xs) (h' : w.ownsRow b' 48 1 v n' ys) : u.ownBlock = none ∨ u.ownBlock ≠ v.ownBlock := by
  rcases h.2 with ⟨rfl, _⟩ | ⟨g, cap, cur, rfl, _, hg, _⟩
  · exact .inl rfl
  · rcases h'.2 with ⟨rfl, _⟩ | ⟨g', cap', cur', rfl, _, hg', _⟩
    · exact .inr (by simp [Value.ownBlock])
    · refine .inr (fun e => ?_)
      simp only [Value.ownBlock, Option.some.injEq] at e
      subst e
      have := hg.symm.trans hg'
      simp at this
theorem RowsOK.kept {w w' : World} {base : Nat} {Z : List (Value × List Int)} {r : Option Nat} (h : RowsOK w base Z) (hg : w.grownBy w' r) (hne : ∀ z ∈ Z, z.1.ownBlock = none ∨ z.1.ownBlock ≠ r) : RowsOK w' base Z :=
  ⟨fun z hz => World.ownsRow.kept (h.1 z hz) hg (hne z hz), h.2⟩
theorem RowsOK.below {w w' : World} {base : Nat} {Z : List (Value × List Int)} (h : RowsOK w base Z) (hb : Below w.heap.size w w') : RowsOK w' base Z :=
  ⟨fun z hz => own_below (h.1 z hz) hb, h.2⟩
theorem RowsOK.mono {w : World} {b b' : Nat} {Z : List (Value × List Int)} (h : RowsOK w b Z) (hb : b' ≤ b) : RowsOK w b' Z := ⟨fun z hz => own_mono (h.1 z hz) hb, h.2⟩
theorem RowsOK.sub {w : World} {b : Nat} {Z Z' : List (Value × List Int)} (h : RowsOK w b Z) (hs : Z'.Sublist Z) : RowsOK w b Z' := ⟨fun z hz => h.1 z (hs.subset hz), h.2.sublist hs⟩
theorem RowsOK.snoc {w : World} {b : Nat} {Z : List (Value × List Int)} {u : Value} {xs : List Int} (h : RowsOK w b Z) (hu : OwnInts w b u xs) (hd : ∀ z ∈ Z, ∀ g, z.1.ownBlock = some g → u.ownBlock ≠ some g) : RowsOK w b (Z ++ [(u, xs)]) := by
  refine ⟨fun z hz => ?_, ?_⟩
  · rcases List.mem_append.1 hz with hz | hz
    · exact h.1 z hz
    · simp at hz; subst hz; exact hu
  · rw [List.pairwise_append]
    refine ⟨h.2, List.pairwise_singleton _ _, fun z hz z' hz' => ?_⟩
    simp at hz'
    subst hz'
    exact hd z hz
theorem OwnZ.nil (w : World) (base : Nat) : OwnZ w base (.slice none 0 0) [] := ⟨World.ownsRow_nil _ _ _ _, fun z hz => by simp at hz, List.Pairwise.nil⟩
theorem OwnZ.below {w w' : World} {base : Nat} {v : Value} {Z : List (Value × List Int)} (h : OwnZ w base v Z) (hb : Below w.heap.size w w') : OwnZ w' base v Z := ⟨own_below h.1 hb, h.2.below hb⟩
theorem OwnZ.mono {w : World} {b b' : Nat} {v : Value} {Z : List (Value × List Int)} (h : OwnZ w b v Z) (hb : b' ≤ b) : OwnZ w b' v Z := ⟨own_mono h.1 hb, h.2.mono hb⟩
theorem OwnZ.kept {w w' : World} {base : Nat} {v : Value} {Z : List (Value × List Int)} {r : Option Nat} (h : OwnZ w base v Z) (hg : w.grownBy w' r) (hr : ∀ g, r = some g → g < base) : OwnZ w' base v Z := by
  have hne : ∀ {t : TypeId} {u : Value} {n : Nat} {xs : List Value}, w.ownsRow base t 1 u n xs → u.ownBlock = none ∨ u.ownBlock ≠ r := by
    intro t u n xs hu
    have hl := World.ownsRow.lt hu
    cases e : u.ownBlock with
    | none => exact .inl rfl
    | some g => exact .inr (fun e2 => by have h1 := hl g e; have h2 := hr g e2.symm; omega)
  exact ⟨World.ownsRow.kept h.1 hg (hne h.1), h.2.kept hg (fun z hz => hne (h.2.1 z hz))⟩
/-- Behind an append of one row. -/
theorem OwnZ.step {w1 w2 : World} {nb : Nat} {v v' : Value} {Z : List (Value × List Int)} {u : Value} {xs : List Int} (hZ : OwnZ w1 nb v Z) (hu : OwnInts w1 nb u xs) (hd : ∀ z ∈ Z, ∀ g, z.1.ownBlock = some g → u.ownBlock ≠ some g)
    (hown : w2.ownsRow nb 48 1 v' (Z.length + 1) (Z.map Prod.fst ++ [u])) (hg : w1.grownBy w2 v.ownBlock) : OwnZ w2 nb v' (Z ++ [(u, xs)]) := by
  refine ⟨by simpa using hown, RowsOK.kept (hZ.2.snoc hu hd) hg (fun z hz => ?_)⟩
  rcases List.mem_append.1 hz with hz | hz
  · exact rows_ne (hZ.2.1 z hz) hZ.1
  · simp at hz; subst hz; exact rows_ne hu hZ.1
/-- How a list of rows lies, for reading: all its blocks in lo .. hi. -/
def MatAt (w : World) (lo hi : Nat) (a : Option Addr) (L : List (List Int)) : Prop :=
  ∀ i, i < L.length → ∃ b off ai ci, a = some ⟨b, off, none⟩ ∧ (lo ≤ b ∧ b < hi) ∧ w.cell? ⟨b, off + i, none⟩ = some (.slice ai (L.getD i []).length ci) ∧ IntsAt w ai (L.getD i []) ∧ ∀ z, ai = some z → lo ≤ z.block ∧ z.block < hi
theorem MatAt.below {w w' : World} {lo hi : Nat} {a : Option Addr} {L : List (List Int)} (h : MatAt w lo hi a L) (hb : Below w.heap.size w w') : MatAt w' lo hi a L := by
  intro i hi'
  obtain ⟨b, off, ai, ci, ha, hlo, hc, hI, hz⟩ := h i hi'
  exact ⟨b, off, ai, ci, ha, hlo, (hb.cell (World.block_lt_of_cell? w _ hc)).trans hc, hI.below hb, hz⟩
theorem MatAt.other {w w' : World} {lo hi : Nat} {a : Option Addr} {L : List (List Int)} {r : Option Nat} (h : MatAt w lo hi a L) (hg : w.grownBy w' r) (hr : ∀ g, r = some g → g < lo ∨ hi ≤ g) : MatAt w' lo hi a L := by
  intro i hi'
  obtain ⟨b, off, ai, ci, ha, hlo, hc, hI, hz⟩ := h i hi'
  refine ⟨b, off, ai, ci, ha, hlo, hg.cell hc (fun e => ?_), ints_other hI hg (fun x hx e => ?_), hz⟩
  · have := hr _ e.symm
    dsimp only at this
    omega
  · have h1 := hr _ e.symm
    have h2 := hz x hx
    omega
/-- Only blocks from B on have changed. -/
theorem MatAt.since {w w' : World} {B lo hi : Nat} {a : Option Addr} {L : List (List Int)} (h : MatAt w lo hi a L) (hb : Below B w w') (hB : hi ≤ B) : MatAt w' lo hi a L := by
  intro i hi'
  obtain ⟨b, off, ai, ci, ha, hlo, hc, hI, hz⟩ := h i hi'
  refine ⟨b, off, ai, ci, ha, hlo, (hb.cell (p := ⟨b, off + i, none⟩) (by show b < B; omega)).trans hc, ?_, hz⟩
  intro j hj
  obtain ⟨b', off', ha', h0⟩ := hI j hj
  have h1 := hz _ ha'
  dsimp only at h1
  exact ⟨b', off', ha', (hb.cell (p := ⟨b', off' + j, none⟩) (by show b' < B; omega)).trans h0⟩
theorem mat_nil (w : World) (lo hi : Nat) (a : Option Addr) : MatAt w lo hi a [] := fun i h => absurd h (Nat.not_lt_zero i)
/-- The numbers of the rows. -/
def rowsL (Z : List (Value × List Int)) : List (List Int) := Z.map Prod.snd
theorem OwnZ.form {w : World} {base : Nat} {v : Value} {Z : List (Value × List Int)} (h : OwnZ w base v Z) :
    (v = .slice none 0 0 ∧ Z = []) ∨ ∃ g cap, v = .slice (some ⟨g, 0, none⟩) Z.length cap ∧ base ≤ g ∧ g < w.heap.size := by
  have hl := World.ownsRow.lt h.1
  rcases h.1.2 with ⟨rfl, h0⟩ | ⟨g, cap, cur, rfl, hb, hh, _⟩
  · exact .inl ⟨rfl, List.length_eq_zero_iff.1 h0⟩
  · exact .inr ⟨g, cap, rfl, hb, (hl g rfl).2⟩
theorem OwnZ.row {w : World} {base g cap : Nat} {Z : List (Value × List Int)} (h : OwnZ w base (.slice (some ⟨g, 0, none⟩) Z.length cap) Z) {i : Nat} (hi : i < Z.length) : ∃ ai ci, w.cell? ⟨g, i, none⟩ = some (.slice ai (Z[i].2).length ci) ∧ Z[i].1 = .slice ai (Z[i].2).length ci ∧ IntsAt w ai Z[i].2 ∧ ∀ z, ai = some z → base ≤ z.block ∧ z.block < w.heap.size := by
  obtain ⟨ai, ci, e, hI, hz⟩ := own_viewI (h.2.1 Z[i] (List.getElem_mem hi))
  have hc := World.ownsRow.cellAt h.1 i (by omega)
  rw [List.getElem?_map, List.getElem?_eq_getElem hi] at hc
  exact ⟨ai, ci, by rw [hc]; simp [e], e, hI, hz⟩
theorem OwnZ.view {w : World} {base : Nat} {v : Value} {Z : List (Value × List Int)} (h : OwnZ w base v Z) :
    ∃ (a : Option Addr) (cap : Nat), v = .slice a (rowsL Z).length cap ∧ MatAt w base w.heap.size a (rowsL Z) := by
  rcases h.form with ⟨rfl, rfl⟩ | ⟨g, cap, rfl, hb, hg⟩
  · exact ⟨none, 0, rfl, mat_nil _ _ _ _⟩
  · refine ⟨some ⟨g, 0, none⟩, cap, by simp [rowsL], fun i hi => ?_⟩
    have hi' : i < Z.length := by simpa [rowsL] using hi
    obtain ⟨ai, ci, hc, _, hI, hz⟩ := h.row hi'
    have e : (rowsL Z).getD i [] = Z[i].2 := by simp [rowsL, List.getD_eq_getElem?_getD, List.getElem?_eq_getElem hi']
    rw [e]
    exact ⟨g, 0, ai, ci, rfl, ⟨hb, hg⟩, by rw [Nat.zero_add]; exact hc, hI, hz⟩

/-- n marks from s on. -/
def marksF (s : Int) (n : Nat) : List Int := (List.range n).map fun (i : Nat) => s + (i : Int)
theorem marksF_length (s : Int) (n : Nat) : (marksF s n).length = n := by simp [marksF]
theorem marksF_get (s : Int) (n i : Nat) (h : i < n) : (marksF s n).getD i 0 = s + i := by simp [marksF, List.getD_eq_getElem?_getD, h]
theorem set_markF (ys : List Value) (s : Int) (k : Nat) (u : Value) (h : k < ys.length) (hp : ∀ j, j < k → ys[j]? = some (.int .i64 (s + (j : Int)))) (hu : u = .int .i64 (s + (k : Int))) :
    ∀ j, j < k + 1 → (ys.set k u)[j]? = some (.int .i64 (s + (j : Int))) := by
  intro j hj
  rw [List.getElem?_set]
  by_cases e : k = j
  · subst e
    rw [if_pos rfl, if_pos h, hu]
  · rw [if_neg e]
    exact hp j (by omega)
/-- How many numbers are in the first i rows; the marks of all. -/
def sumR (Z : List (Value × List Int)) (i : Nat) : Nat := ((Z.take i).map fun z => z.2.length).sum
theorem sumR_step {Z : List (Value × List Int)} {i : Nat} (h : i < Z.length) : sumR Z (i + 1) = sumR Z i + (Z[i].2).length := by
  unfold sumR
  rw [List.take_succ_eq_append_getElem h, List.map_append, List.sum_append]
  simp
theorem sumR_mono {Z : List (Value × List Int)} {i j : Nat} (h : i ≤ j) : sumR Z i ≤ sumR Z j := by
  induction j with
  | zero => rw [show i = 0 by omega]; exact Nat.le_refl _
  | succ j ih =>
    by_cases e : i = j + 1
    · rw [e]; exact Nat.le_refl _
    · by_cases hj : j < Z.length
      · rw [sumR_step hj]
        have := ih (by omega)
        omega
      · have : sumR Z (j + 1) = sumR Z j := by unfold sumR; rw [List.take_of_length_le (by omega), List.take_of_length_le (by omega)]
        rw [this]
        exact ih (by omega)
def marksL (Z : List (Value × List Int)) : List (List Int) := (List.range Z.length).map fun (i : Nat) => marksF (1 + (sumR Z i : Int)) ((rowsL Z).getD i []).length
theorem marksL_length (Z : List (Value × List Int)) : (marksL Z).length = Z.length := by simp [marksL]
theorem rowsL_length (Z : List (Value × List Int)) : (rowsL Z).length = Z.length := by simp [rowsL]
theorem rowsL_get {Z : List (Value × List Int)} {i : Nat} (h : i < Z.length) : (rowsL Z).getD i [] = Z[i].2 := by simp [rowsL, List.getD_eq_getElem?_getD, List.getElem?_eq_getElem h]
theorem marksL_get {Z : List (Value × List Int)} {i : Nat} (h : i < Z.length) : (marksL Z).getD i [] = marksF (1 + (sumR Z i : Int)) (Z[i].2).length := by
  unfold marksL
  rw [List.getD_eq_getElem?_getD, List.getElem?_map, List.getElem?_range h]
  simp only [Option.map_some, Option.getD_some]
  rw [rowsL_get h]
/-- The first k rows are marked, the others own what they did. -/
def MkZ (w : World) (base : Nat) (Z : List (Value × List Int)) (k : Nat) : Prop :=
  ∀ i (h : i < Z.length), (i < k → ∀ ai ci, Z[i].1 = .slice ai (Z[i].2).length ci → IntsAt w ai (marksF (1 + (sumR Z i : Int)) (Z[i].2).length)) ∧ (k ≤ i → OwnInts w base Z[i].1 Z[i].2)
theorem MkZ.step {w w' : World} {base : Nat} {Z : List (Value × List Int)} {k : Nat} (h : MkZ w base Z k) (hp : Z.Pairwise (fun z z' => ∀ g, z.1.ownBlock = some g → z'.1.ownBlock ≠ some g)) (hk : k < Z.length) {ai : Option Addr} {ci : Nat} (he : Z[k].1 = .slice ai (Z[k].2).length ci)
    (hm : IntsAt w' ai (marksF (1 + (sumR Z k : Int)) (Z[k].2).length)) (hg : w.grownBy w' (ai.map (·.block))) : MkZ w' base Z (k + 1) := by
  have hob : Z[k].1.ownBlock = ai.map (·.block) := by rw [he]; cases ai <;> rfl
  rw [List.pairwise_iff_getElem] at hp
  intro i hi
  refine ⟨fun hik bi di hbi => ?_, fun hki => ?_⟩
  · by_cases e : i = k
    · subst e
      rw [he] at hbi
      simp only [Value.slice.injEq, true_and] at hbi
      obtain ⟨rfl, rfl⟩ := hbi
      exact hm
    · refine ints_other ((h i hi).1 (by omega) bi di hbi) hg (fun x hx e2 => ?_)
      have h1 := hp i k hi hk (by omega) x.block (by rw [hbi, hx]; rfl)
      rw [hob] at h1
      exact h1 e2.symm
  · refine World.ownsRow.kept ((h i hi).2 (by omega)) hg ?_
    cases e : (Z[i].1).ownBlock with
    | none => exact .inl rfl
    | some g =>
      refine .inr (fun e2 => ?_)
      have h1 := hp k i hk hi (by omega) g (by rw [hob]; exact e2.symm)
      exact h1 e
theorem MkZ.start {w : World} {base : Nat} {Z : List (Value × List Int)} (h : RowsOK w base Z) : MkZ w base Z 0 := fun i hi => ⟨fun h0 => absurd h0 (Nat.not_lt_zero i), fun _ => h.1 _ (List.getElem_mem hi)⟩
theorem mat_len {Z : List (Value × List Int)} {i : Nat} (h : i < Z.length) : ((marksL Z).getD i []).length = (Z[i].2).length := by rw [marksL_get h, marksF_length]
theorem sumR_two {Z : List (Value × List Int)} (h : ∀ z ∈ Z, z.2.length = 2) : ∀ i, sumR Z i ≤ 2 * i
  | 0 => Nat.le_refl _
  | i + 1 => by
    have ih := sumR_two h i
    by_cases hi : i < Z.length
    · rw [sumR_step hi, h _ (List.getElem_mem hi)]
      omega
    · have : sumR Z (i + 1) = sumR Z i := by unfold sumR; rw [List.take_of_length_le (by omega), List.take_of_length_le (by omega)]
      omega
end Go.Proofs.Ytmflgcikclikeaa
