/- Plain mathematics of the text of a spot. No conditions but those written in each theorem. -/
import Derived.Test.YtfimjfchdaioeaaDoorNum
import Derived.Deep.RegionHeld3
import Derived.Deep.DrawnRows
import Derived.IntWalk
namespace Go.Proofs.YtfimjfchdaioeaaDoor
open Go.RowKit


attribute [local go_sem ↓] Go.wp_at_zero Go.wp_at_succ
/-- The other side's reading: the pieces between the signs '+'. -/
def readP (l : List UInt8) : Int :=
  match splitL 43 l with
  | [p] => if readL p < 0 then -1 else 8 * readL p
  | [p, q] => if readL p < 0 then -1 else if 1 ≤ readL q ∧ readL q ≤ 7 then 8 * readL p + readL q else -1
  | _ => -1
theorem readP_lt (l : List UInt8) : -1 ≤ readP l ∧ readP l < 8000008 := by
  unfold readP
  split
  · rename_i p _
    have := readL_lt p
    split <;> omega
  · rename_i p q _
    have := readL_lt p
    split
    · omega
    · split <;> omega
  · omega
theorem readP_one {l : List UInt8} (h : (43 : UInt8) ∉ l) : readP l = if readL l < 0 then -1 else 8 * readL l := by unfold readP; rw [splitL_none h]
theorem readP_two {p q : List UInt8} (h : (43 : UInt8) ∉ p) (h2 : (43 : UInt8) ∉ q) : readP (p ++ 43 :: q) = if readL p < 0 then -1 else if 1 ≤ readL q ∧ readL q ≤ 7 then 8 * readL p + readL q else -1 := by
  unfold readP; rw [splitL_some h, splitL_none h2]
theorem readP_more {p q : List UInt8} (h : (43 : UInt8) ∉ p) (h2 : (43 : UInt8) ∈ q) : readP (p ++ 43 :: q) = -1 := by
  have hl := splitL_two h2
  unfold readP
  rw [splitL_some h]
  split
  · rename_i he; simp at he; rw [he.2] at hl; simp at hl
  · rename_i he; simp at he; rw [he.2] at hl; simp at hl
  · rfl
def okP (l : List UInt8) : Bool := decide (0 ≤ readP l) && decide (readP l ≤ 1287)
theorem okP_iff {l : List UInt8} : okP l = true ↔ 0 ≤ readP l ∧ readP l ≤ 1287 := by unfold okP; simp
theorem okP_no {l : List UInt8} (h : ¬ (0 ≤ readP l ∧ readP l ≤ 1287)) : okP l = false := by
  cases e : okP l
  · rfl
  · exact absurd (okP_iff.1 e) h
theorem okN_read {l : List UInt8} {most : Nat} (hm : most ≤ 999) (h : okN l most = true) : readL l = numL l ∧ numL l ≤ most := by
  obtain ⟨h1, h2⟩ := okN_iff.1 h
  have := can_short h1 (by omega)
  exact ⟨readL_yes h1 (by omega), h2⟩
theorem okN_not {l : List UInt8} {most : Nat} (h : okN l most = false) : readL l < 0 ∨ (most : Int) < readL l := by
  by_cases h' : 0 ≤ readL l
  · obtain ⟨h1, h2, h3⟩ := readL_can h'
    right
    by_cases h4 : numL l ≤ most
    · rw [okN_iff.2 ⟨h1, h4⟩] at h; cases h
    · omega
  · left; omega
/-- The program's reading: what stands ahead of the first sign '+', and what stands behind it. -/
theorem steps_whole {l : List UInt8} (h : (43 : UInt8) ∉ l) (ho : okN l 160 = true) : okP l = true ∧ readP l = 8 * numL l := by
  obtain ⟨h1, h2⟩ := okN_read (by omega) ho
  have e : readP l = 8 * numL l := by rw [readP_one h, h1, if_neg (by omega)]
  exact ⟨okP_iff.2 ⟨by omega, by omega⟩, e⟩
theorem steps_whole_no {l : List UInt8} (h : (43 : UInt8) ∉ l) (ho : okN l 160 = false) : okP l = false := by
  refine okP_no ?_
  rw [readP_one h]
  rcases okN_not ho with h1 | h1
  · rw [if_pos h1]; omega
  · split <;> omega
theorem steps_first_no {p q : List UInt8} (h : (43 : UInt8) ∉ p) (ho : okN p 160 = false) : okP (p ++ 43 :: q) = false := by
  refine okP_no ?_
  by_cases h2 : (43 : UInt8) ∈ q
  · rw [readP_more h h2]; omega
  · rw [readP_two h h2]
    rcases okN_not ho with h1 | h1
    · rw [if_pos h1]; omega
    · rw [if_neg (by omega)]; split <;> omega
theorem steps_rest_no {p q : List UInt8} (h : (43 : UInt8) ∉ p) (ho : okN q 7 = false ∨ numL q = 0) : okP (p ++ 43 :: q) = false := by
  refine okP_no ?_
  by_cases h2 : (43 : UInt8) ∈ q
  · rw [readP_more h h2]; omega
  · rw [readP_two h h2]
    have hq : ¬ (1 ≤ readL q ∧ readL q ≤ 7) := by
      rcases ho with ho | ho
      · rcases okN_not ho with h1 | h1 <;> omega
      · intro ⟨h3, _⟩
        have := (readL_can (show 0 ≤ readL q by omega)).2.2
        omega
    rw [if_neg hq]
    split <;> omega
theorem steps_both {p q : List UInt8} (h : (43 : UInt8) ∉ p) (ho : okN p 160 = true) (hq : okN q 7 = true) (h0 : numL q ≠ 0) : okP (p ++ 43 :: q) = true ∧ readP (p ++ 43 :: q) = 8 * numL p + numL q := by
  obtain ⟨h1, h2⟩ := okN_read (by omega) ho
  obtain ⟨h3, h4⟩ := okN_read (by omega) hq
  have e : readP (p ++ 43 :: q) = 8 * numL p + numL q := by
    rw [readP_two h (can_not (okN_iff.1 hq).1 (by decide)), h1, h3, if_neg (by omega), if_pos (by omega)]
  exact ⟨okP_iff.2 ⟨by omega, by omega⟩, e⟩
/-- What is read has no other signs than digits and '+'. -/
theorem readP_not {l : List UInt8} {c : UInt8} (h : 0 ≤ readP l) (hc : digB c = false) (h43 : c ≠ 43) : c ∉ l := by
  by_cases hm : (43 : UInt8) ∈ l
  · obtain ⟨p, q, rfl, hp⟩ := spl_cut 43 l hm
    by_cases h2 : (43 : UInt8) ∈ q
    · rw [readP_more hp h2] at h; omega
    · rw [readP_two hp h2] at h
      by_cases h3 : readL p < 0
      · rw [if_pos h3] at h; omega
      · rw [if_neg h3] at h
        by_cases h4 : 1 ≤ readL q ∧ readL q ≤ 7
        · have a := can_not (readL_can (show 0 ≤ readL p by omega)).1 hc
          have b := can_not (readL_can (show 0 ≤ readL q by omega)).1 hc
          simp [a, b, h43]
        · rw [if_neg h4] at h; omega
  · rw [readP_one hm] at h
    by_cases h3 : readL l < 0
    · rw [if_pos h3] at h; omega
    · exact can_not (readL_can (show 0 ≤ readL l by omega)).1 hc

/-- The text of a number of eighths. -/
def partT (x : Int) : ByteArray := if x % 8 = 0 then decT (x / 8).toNat else decT (x / 8).toNat ++ ⟨#[43]⟩ ++ decT (x % 8).toNat
theorem partT_whole {x : Int} (h : x % 8 = 0) : partT x = decT (x / 8).toNat := by unfold partT; rw [if_pos h]
theorem partT_rest {x : Int} (h : ¬ x % 8 = 0) : partT x = decT (x / 8).toNat ++ ⟨#[43]⟩ ++ decT (x % 8).toNat := by unfold partT; rw [if_neg h]
/-- The text of a spot. -/
def spotT (x y : Int) : ByteArray := partT x ++ ⟨#[44]⟩ ++ partT y
/-- A number that is read is written as it was. -/
theorem part_read {l : List UInt8} (h : 0 ≤ readP l) : (partT (readP l)).data.toList = l := by
  by_cases hm : (43 : UInt8) ∈ l
  · obtain ⟨p, q, rfl, hp⟩ := spl_cut 43 l hm
    by_cases h2 : (43 : UInt8) ∈ q
    · rw [readP_more hp h2] at h; omega
    · rw [readP_two hp h2] at h ⊢
      by_cases h3 : readL p < 0
      · rw [if_pos h3] at h; omega
      · rw [if_neg h3] at h ⊢
        by_cases h4 : 1 ≤ readL q ∧ readL q ≤ 7
        · rw [if_pos h4]
          obtain ⟨a1, _, a3⟩ := readL_can (show 0 ≤ readL p by omega)
          obtain ⟨b1, _, b3⟩ := readL_can (show 0 ≤ readL q by omega)
          rw [partT_rest (by omega), show ((8 * readL p + readL q) / 8).toNat = numL p by omega, show ((8 * readL p + readL q) % 8).toNat = numL q by omega]
          unfold decT
          rw [dec_num p a1, dec_num q b1]
          simp [ByteArray.data_append]
        · rw [if_neg h4] at h; omega
  · rw [readP_one hm] at h ⊢
    by_cases h3 : readL l < 0
    · rw [if_pos h3] at h; omega
    · rw [if_neg h3]
      obtain ⟨a1, _, a3⟩ := readL_can (show 0 ≤ readL l by omega)
      rw [partT_whole (by omega), show ((8 * readL l) / 8).toNat = numL l by omega]
      unfold decT
      rw [dec_num l a1]
theorem spot_read {p q : List UInt8} (hp : 0 ≤ readP p) (hq : 0 ≤ readP q) : spotT (readP p) (readP q) = ⟨(p ++ 44 :: q).toArray⟩ := by
  apply ByteArray.ext
  unfold spotT
  rw [ByteArray.data_append, ByteArray.data_append]
  apply Array.ext'
  simp [part_read hp, part_read hq]

end Go.Proofs.YtfimjfchdaioeaaDoor
