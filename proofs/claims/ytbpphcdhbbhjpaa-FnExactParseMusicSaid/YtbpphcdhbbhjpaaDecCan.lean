/- Decimal texts are numbers, and how the signs of a text lie. No conditions but those written in each theorem. -/
import Derived.Test.YtbpphcdhbbhjpaaNum
import Derived.Laws.RangeAny
namespace Go.Proofs.Ytbpphcdhbbhjpaa
open Go.RowKit


theorem dig_small {n : Nat} (h : n < 10) : digB (UInt8.ofNat (48 + n)) = true := by
  rw [digB_iff]
  simp
  omega
theorem dec_all : ∀ n : Nat, (Lib.decDigits n).all digB = true := by
  intro n
  induction n using Nat.strongRecOn with
  | ind n ih =>
    rw [Lib.decDigits]
    by_cases h : n < 10
    · rw [dif_pos h]; simp only [List.all_cons, List.all_nil, Bool.and_true]; exact dig_small h
    · rw [dif_neg h, List.all_append, ih (n / 10) (by omega)]
      simp only [List.all_cons, List.all_nil, Bool.and_true, Bool.true_and]; exact dig_small (Nat.mod_lt n (by omega : 0 < 10))
theorem dec_val : ∀ n : Nat, numL (Lib.decDigits n) = n := by
  intro n
  induction n using Nat.strongRecOn with
  | ind n ih =>
    rw [Lib.decDigits]
    by_cases h : n < 10
    · rw [dif_pos h]
      show 10 * 0 + ((UInt8.ofNat (48 + n)).toNat - 48) = n
      simp
      omega
    · rw [dif_neg h]
      unfold numL
      rw [numF_append]
      have e := ih (n / 10) (by omega)
      unfold numL at e
      rw [e]
      show 10 * (n / 10) + ((UInt8.ofNat (48 + n % 10)).toNat - 48) = n
      simp
      omega
theorem dec_ne : ∀ n : Nat, Lib.decDigits n ≠ [] := by
  intro n
  rw [Lib.decDigits]
  by_cases h : n < 10
  · rw [dif_pos h]; simp
  · rw [dif_neg h]; simp
theorem dec_lead : ∀ n : Nat, 1 ≤ n → (Lib.decDigits n)[0]? ≠ some 48 := by
  intro n
  induction n using Nat.strongRecOn with
  | ind n ih =>
    intro h1
    rw [Lib.decDigits]
    by_cases h : n < 10
    · rw [dif_pos h]
      intro e
      have e2 : UInt8.ofNat (48 + n) = 48 := by simpa using e
      have e3 := congrArg UInt8.toNat e2
      simp at e3
      omega
    · rw [dif_neg h, List.getElem?_append_left (by have := List.length_pos_iff.2 (dec_ne (n / 10)); omega)]
      exact ih (n / 10) (by omega) (by omega)
theorem dec_can (n : Nat) : canL (Lib.decDigits n) = true := by
  rw [canL_iff]
  refine ⟨dec_all n, List.length_pos_iff.2 (dec_ne n), ?_⟩
  by_cases h : 1 ≤ n
  · exact .inr (dec_lead n h)
  · obtain rfl : n = 0 := by omega
    left
    rw [Lib.decDigits, dif_pos (by omega)]
    rfl
theorem dec_ok (n most : Nat) (h : n ≤ most) : okN (decL n) most = true := okN_iff.2 ⟨dec_can n, by unfold decL; rw [dec_val]; exact h⟩
theorem okN_dec {l : List UInt8} {most : Nat} (h : okN l most = true) : decL (numL l) = l := dec_num l (okN_iff.1 h).1
/-- The signs of a sign's text behind the first are none of ASCII. -/
theorem decode_span (s : ByteArray) (pos k : Nat) (h1 : 1 ≤ k) (hk : k < (Utf8.decode s pos).2) : pos + k < s.size ∧ 128 ≤ (s.get! (pos + k)).toNat := by
  simp only [Utf8.decode] at hk
  repeat' split at hk
  all_goals simp only [] at hk
  all_goals try (exfalso; omega)
  all_goals
    rcases (show k = 1 ∨ k = 2 ∨ k = 3 by omega) with rfl | rfl | rfl
  all_goals try (exfalso; omega)
  all_goals simp_all
  all_goals omega
theorem get_bs {l : List UInt8} {i : Nat} (h : i < l.length) : (bs l).get! i = l[i]'h := by
  have h2 : i < (bs l).size := h
  show (bs l).data[i]! = _
  rw [getElem!_pos (bs l).data i (by simpa using h2)]
  rfl
/-- What the range takes at one step: a sign of ASCII, or bytes that are none. -/
theorem dec_bytes {l : List UInt8} {i : Nat} (h : i < l.length) (ha : 128 ≤ (l[i]'h).toNat) : ∀ b ∈ (l.drop i).take (Utf8.decode (bs l) i).2, 128 ≤ b.toNat := by
  intro b hb
  obtain ⟨k, hk, rfl⟩ := List.mem_iff_getElem.1 hb
  rw [List.length_take, List.length_drop] at hk
  rw [List.getElem_take, List.getElem_drop]
  by_cases e : k = 0
  · subst e; exact ha
  · have hs := decode_span (bs l) i k (by omega) (by omega)
    have h2 : i + k < l.length := hs.1
    have h3 := hs.2
    rw [get_bs h2] at h3
    exact h3
theorem dec_fits {l : List UInt8} {i : Nat} (h : i < l.length) : i + (Utf8.decode (bs l) i).2 ≤ l.length := by
  have hp : i < (bs l).size := h
  by_cases e : (Utf8.decode (bs l) i).2 ≤ 1
  · omega
  · have := (decode_span (bs l) i ((Utf8.decode (bs l) i).2 - 1) (by omega) (by omega)).1
    have hz := bs_size l
    omega

end Go.Proofs.Ytbpphcdhbbhjpaa
