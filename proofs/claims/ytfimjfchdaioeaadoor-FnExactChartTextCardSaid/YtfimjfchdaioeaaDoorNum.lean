/- Plain mathematics of texts: decimal numbers, splitting. No conditions but those written in each theorem. -/
import Derived.Test.YtfimjfchdaioeaaDoorBase
import Derived.Lib.ItoaNum
import Derived.Lib.ItoaLen
import Derived.Lib.IndexLaws
import Derived.Lib.IndexMore
import Derived.Lib.IndexBytes
namespace Go.Proofs.YtfimjfchdaioeaaDoor
open Go.RowKit

/-! ### numbers -/
def digB (c : UInt8) : Bool := decide (48 ≤ c.toNat) && decide (c.toNat ≤ 57)
theorem digB_iff {c : UInt8} : digB c = true ↔ 48 ≤ c.toNat ∧ c.toNat ≤ 57 := by unfold digB; simp
/-- The value of digits, behind the value n. -/
def numF : Nat → List UInt8 → Nat
  | n, [] => n
  | n, c :: r => numF (10 * n + (c.toNat - 48)) r
theorem numF_append (n : Nat) (l m : List UInt8) : numF n (l ++ m) = numF (numF n l) m := by
  induction l generalizing n with
  | nil => rfl
  | cons c r ih => exact ih _
theorem numF_ge' : ∀ (l : List UInt8) (n : Nat), n * 10 ^ l.length ≤ numF n l
  | [], n => by
    have e : n * 10 ^ ([] : List UInt8).length = n := Nat.mul_one n
    exact Nat.le_of_eq e
  | c :: r, n => by
    have h := numF_ge' r (10 * n + (c.toNat - 48))
    have h2 : n * 10 ^ (c :: r).length = (10 * n) * 10 ^ r.length := by
      rw [List.length_cons, Nat.pow_succ, Nat.mul_comm _ 10, ← Nat.mul_assoc, Nat.mul_comm n 10]
    have h3 : (10 * n) * 10 ^ r.length ≤ (10 * n + (c.toNat - 48)) * 10 ^ r.length := Nat.mul_le_mul_right _ (by omega)
    exact Nat.le_trans (Nat.le_of_eq h2) (Nat.le_trans h3 h)
theorem numF_ge (n : Nat) (l : List UInt8) : n * 10 ^ l.length ≤ numF n l := numF_ge' l n
theorem numF_mono {n m : Nat} (h : n ≤ m) (l : List UInt8) : numF n l ≤ numF m l := by
  induction l generalizing n m with
  | nil => exact h
  | cons c r ih => exact ih (by omega)
theorem numF_le (n : Nat) (l : List UInt8) : n ≤ numF n l := by
  have h := numF_ge n l
  have h2 : 1 ≤ 10 ^ l.length := Nat.one_le_pow _ _ (by omega)
  have h3 : n * 1 ≤ n * 10 ^ l.length := Nat.mul_le_mul_left _ h2
  omega
theorem numF_lt' : ∀ (l : List UInt8) (n : Nat), l.all digB = true → numF n l < (n + 1) * 10 ^ l.length
  | [], n, _ => by
    have e : (n + 1) * 10 ^ ([] : List UInt8).length = n + 1 := Nat.mul_one (n + 1)
    exact Nat.lt_of_lt_of_le (Nat.lt_succ_self n) (Nat.le_of_eq e.symm)
  | c :: r, n, hd => by
    rw [List.all_cons, Bool.and_eq_true] at hd
    obtain ⟨hc, hr⟩ := hd
    have hc' := digB_iff.1 hc
    have h := numF_lt' r (10 * n + (c.toNat - 48)) hr
    have h2 : (n + 1) * 10 ^ (c :: r).length = (10 * n + 10) * 10 ^ r.length := by
      rw [List.length_cons, Nat.pow_succ, Nat.mul_comm _ 10, ← Nat.mul_assoc, Nat.mul_comm (n + 1) 10, Nat.mul_add]
    have h3 : (10 * n + (c.toNat - 48) + 1) * 10 ^ r.length ≤ (10 * n + 10) * 10 ^ r.length := Nat.mul_le_mul_right _ (by omega)
    exact Nat.lt_of_lt_of_le h (Nat.le_trans h3 (Nat.le_of_eq h2.symm))
theorem numF_lt (n : Nat) (l : List UInt8) (hd : l.all digB = true) : numF n l < (n + 1) * 10 ^ l.length := numF_lt' l n hd
/-- A canonical decimal number: digits, and no zero ahead. -/
def canL (l : List UInt8) : Bool := l.all digB && decide (1 ≤ l.length) && (decide (l.length = 1) || decide (l[0]? ≠ some 48))
theorem canL_iff {l : List UInt8} : canL l = true ↔ l.all digB = true ∧ 1 ≤ l.length ∧ (l.length = 1 ∨ l[0]? ≠ some 48) := by
  unfold canL
  simp [and_assoc]
def numL (l : List UInt8) : Nat := numF 0 l
def readL (l : List UInt8) : Int := if canL l = true ∧ l.length ≤ 6 then numL l else -1
theorem readL_yes {l : List UInt8} (h : canL l = true) (h6 : l.length ≤ 6) : readL l = numL l := by unfold readL; rw [if_pos ⟨h, h6⟩]
theorem readL_no {l : List UInt8} (h : ¬ (canL l = true ∧ l.length ≤ 6)) : readL l = -1 := by unfold readL; rw [if_neg h]
theorem readL_can {l : List UInt8} (h : 0 ≤ readL l) : canL l = true ∧ l.length ≤ 6 ∧ readL l = numL l := by
  by_cases h' : canL l = true ∧ l.length ≤ 6
  · exact ⟨h'.1, h'.2, readL_yes h'.1 h'.2⟩
  · rw [readL_no h'] at h; omega
theorem readL_lt (l : List UInt8) : readL l < 1000000 := by
  by_cases h' : canL l = true ∧ l.length ≤ 6
  · rw [readL_yes h'.1 h'.2]
    have h := numF_lt 0 l (canL_iff.1 h'.1).1
    have h2 : 10 ^ l.length ≤ 10 ^ 6 := Nat.pow_le_pow_right (by omega) h'.2
    unfold numL
    omega
  · rw [readL_no h']; omega
theorem readL_ge (l : List UInt8) : -1 ≤ readL l := by
  by_cases h' : canL l = true ∧ l.length ≤ 6
  · rw [readL_yes h'.1 h'.2]; omega
  · rw [readL_no h']; omega
def okN (l : List UInt8) (most : Nat) : Bool := canL l && decide (numL l ≤ most)
theorem okN_iff {l : List UInt8} {most : Nat} : okN l most = true ↔ canL l = true ∧ numL l ≤ most := by unfold okN; simp
/-- A canonical number is short if it is small. -/
theorem can_short {l : List UInt8} (h : canL l = true) (hn : numL l ≤ 999) : l.length ≤ 3 := by
  obtain ⟨h1, h2, h3⟩ := canL_iff.1 h
  match l, h1, h2, h3, hn with
  | c :: r, h1, _, h3, hn =>
    rw [List.all_cons, Bool.and_eq_true] at h1
    have hc := digB_iff.1 h1.1
    by_cases hl : r.length ≤ 2
    · simp; omega
    · exfalso
      have hne : c.toNat ≠ 48 := by
        intro e
        rcases h3 with h3 | h3
        · simp at h3; rw [h3] at hl; simp at hl
        · apply h3
          have : c = 48 := UInt8.toNat_inj.1 (by simpa using e)
          simp [this]
      have hg := numF_ge (c.toNat - 48) r
      have hp : 10 ^ 3 ≤ 10 ^ r.length := Nat.pow_le_pow_right (by omega) (by omega)
      have hm : 1 * 10 ^ r.length ≤ (c.toNat - 48) * 10 ^ r.length := Nat.mul_le_mul_right _ (by omega)
      have e : numL (c :: r) = numF (c.toNat - 48) r := by unfold numL; show numF (10 * 0 + (c.toNat - 48)) r = _; rw [Nat.mul_zero, Nat.zero_add]
      omega
/-- Reading a canonical number and writing it again. -/
theorem dec_num (l : List UInt8) : ∀ (h : canL l = true), Lib.decDigits (numL l) = l := by
  induction hn : l.length generalizing l with
  | zero =>
    intro h
    have := (canL_iff.1 h).2.1
    omega
  | succ n ih =>
    intro h
    obtain ⟨h1, h2, h3⟩ := canL_iff.1 h
    obtain ⟨m, d, rfl⟩ : ∃ m d, l = m ++ [d] := ⟨l.dropLast, l.getLast (by intro e; subst e; simp at hn), (List.dropLast_concat_getLast _).symm⟩
    rw [List.all_append, Bool.and_eq_true] at h1
    have hd := digB_iff.1 (by simpa using h1.2)
    have hv : numL (m ++ [d]) = 10 * numL m + (d.toNat - 48) := by unfold numL; rw [numF_append]; rfl
    by_cases hm : m.length = 0
    · obtain rfl := List.length_eq_zero_iff.1 hm
      have e : numL ([] ++ [d]) = d.toNat - 48 := by rw [hv]; show 10 * 0 + _ = _; omega
      rw [Lib.decDigits, dif_pos (by omega), e]
      show [_] = [_]
      congr 1
      apply UInt8.toNat_inj.1
      rw [UInt8.toNat_ofNat']
      omega
    · have hcm : canL m = true := by
        refine canL_iff.2 ⟨h1.1, by omega, Or.inr ?_⟩
        rcases h3 with h3 | h3
        · simp at h3; exact absurd (by simp [h3]) hm
        · rwa [List.getElem?_append_left (by omega)] at h3
      have hpos : 1 ≤ numL m := by
        match m, hm, hcm, h3 with
        | c :: r, _, hcm, h3 =>
          have hc := digB_iff.1 ((List.all_eq_true.1 (canL_iff.1 hcm).1) c (by simp))
          have hne : c.toNat ≠ 48 := by
            intro e
            rcases h3 with h3 | h3
            · simp at h3
            · apply h3
              have : c = 48 := UInt8.toNat_inj.1 (by simpa using e)
              simp [this]
          have hg := numF_le (c.toNat - 48) r
          have e : numL (c :: r) = numF (c.toNat - 48) r := by unfold numL; show numF (10 * 0 + (c.toNat - 48)) r = _; rw [Nat.mul_zero, Nat.zero_add]
          omega
      rw [Lib.decDigits, dif_neg (by omega)]
      have e1 : numL (m ++ [d]) / 10 = numL m := by omega
      have e2 : numL (m ++ [d]) % 10 = d.toNat - 48 := by omega
      rw [e1, e2, ih m (by simpa using hn) hcm]
      congr 2
      apply UInt8.toNat_inj.1
      rw [UInt8.toNat_ofNat']
      omega

/-! ### splitting -/
/-- The pieces between the bytes b: 'cur' is what the present piece has already. -/
def spl (b : UInt8) : List UInt8 → List UInt8 → List (List UInt8)
  | cur, [] => [cur]
  | cur, c :: r => if c = b then cur :: spl b [] r else spl b (cur ++ [c]) r
theorem spl_none (b : UInt8) (l : List UInt8) (h : b ∉ l) : ∀ cur, spl b cur l = [cur ++ l] := by
  induction l with
  | nil => intro cur; simp [spl]
  | cons c r ih =>
    intro cur
    rw [List.mem_cons, not_or] at h
    rw [spl, if_neg (fun e => h.1 e.symm), ih h.2]
    simp
theorem spl_some (b : UInt8) (p r : List UInt8) (h : b ∉ p) : ∀ cur, spl b cur (p ++ b :: r) = (cur ++ p) :: spl b [] r := by
  induction p with
  | nil => intro cur; simp [spl]
  | cons c q ih =>
    intro cur
    rw [List.mem_cons, not_or] at h
    rw [List.cons_append, spl, if_neg (fun e => h.1 e.symm), ih h.2]
    simp
theorem spl_length (b : UInt8) (l : List UInt8) : ∀ cur, 1 ≤ (spl b cur l).length ∧ (spl b cur l).length ≤ l.length + 1 := by
  induction l with
  | nil => intro cur; simp [spl]
  | cons c r ih =>
    intro cur
    rw [spl]
    split
    · have := ih []; simp; omega
    · have := ih (cur ++ [c]); simp; omega
theorem spl_cut (b : UInt8) (l : List UInt8) (h : b ∈ l) : ∃ p r, l = p ++ b :: r ∧ b ∉ p := by
  induction l with
  | nil => simp at h
  | cons c r ih =>
    by_cases e : c = b
    · exact ⟨[], r, by simp [e], by simp⟩
    · obtain ⟨p, q, rfl, hp⟩ := ih (by rcases List.mem_cons.1 h with h | h; exact absurd h.symm e; exact h)
      refine ⟨c :: p, q, by simp, ?_⟩
      rw [List.mem_cons, not_or]
      exact ⟨fun e' => e e'.symm, hp⟩
def splitL (b : UInt8) (l : List UInt8) : List (List UInt8) := spl b [] l
theorem splitL_none {b : UInt8} {l : List UInt8} (h : b ∉ l) : splitL b l = [l] := by unfold splitL; rw [spl_none b l h]; simp
theorem splitL_some {b : UInt8} {p r : List UInt8} (h : b ∉ p) : splitL b (p ++ b :: r) = p :: splitL b r := by unfold splitL; rw [spl_some b p r h]; simp
theorem splitL_length (b : UInt8) (l : List UInt8) : 1 ≤ (splitL b l).length ∧ (splitL b l).length ≤ l.length + 1 := spl_length b l []
theorem splitL_two {b : UInt8} {l : List UInt8} (h : b ∈ l) : 2 ≤ (splitL b l).length := by
  obtain ⟨p, r, rfl, hp⟩ := spl_cut b l h
  rw [splitL_some hp, List.length_cons]
  have := (splitL_length b r).1
  omega
theorem cut_none {b : UInt8} {l : List UInt8} (h : b ∉ l) : Lib.cut l [b] = (l, [], false) := by
  have e : Lib.index l [b] = -1 := by
    rw [Lib.index_one]
    by_cases hi : Lib.indexByte l b = -1
    · exact hi
    · exfalso
      have hge := Lib.indexByte_ge l b
      obtain ⟨o, ho⟩ := Int.eq_ofNat_of_zero_le (show 0 ≤ Lib.indexByte l b by omega)
      exact h (List.mem_of_getElem? (Lib.indexByte_some ho).1)
  unfold Lib.cut
  rw [e, if_neg (by omega)]
theorem cut_some {b : UInt8} {p r : List UInt8} (h : b ∉ p) : Lib.cut (p ++ b :: r) [b] = (p, r, true) := by
  have e : Lib.index (p ++ b :: r) [b] = p.length := by
    rw [Lib.index_one]
    have hat : (p ++ b :: r)[p.length]? = some b := by simp
    by_cases hi : Lib.indexByte (p ++ b :: r) b = -1
    · exact absurd hat (Lib.indexByte_none hi _)
    · have hge := Lib.indexByte_ge (p ++ b :: r) b
      obtain ⟨o, ho⟩ := Int.eq_ofNat_of_zero_le (show 0 ≤ Lib.indexByte (p ++ b :: r) b by omega)
      obtain ⟨h1, h2⟩ := Lib.indexByte_some ho
      rw [ho]
      have hle : ¬ p.length < o := fun hlt => h2 _ hlt hat
      have hge2 : ¬ o < p.length := by
        intro hlt
        rw [List.getElem?_append_left hlt] at h1
        exact h (List.mem_of_getElem? h1)
      omega
  unfold Lib.cut
  rw [e, if_pos (by omega)]
  simp

theorem can_not {l : List UInt8} {c : UInt8} (h : canL l = true) (hc : digB c = false) : c ∉ l := by
  intro hm
  have := List.all_eq_true.1 (canL_iff.1 h).1 c hm
  rw [hc] at this
  cases this
/-! ### texts -/
def decT (n : Nat) : ByteArray := ⟨(Lib.decDigits n).toArray⟩
theorem all_take {l : List UInt8} {k : Nat} (h : k < l.length) (h1 : (l.take k).all digB = true) (h2 : digB (l[k]'h) = true) : (l.take (k + 1)).all digB = true := by
  rw [List.take_add_one, List.getElem?_eq_getElem h, List.all_append, h1]
  simpa using h2
theorem num_take {l : List UInt8} {k : Nat} (h : k < l.length) : numL (l.take (k + 1)) = 10 * numL (l.take k) + ((l[k]'h).toNat - 48) := by
  rw [List.take_add_one, List.getElem?_eq_getElem h]
  unfold numL
  rw [numF_append]
  rfl
theorem readL_len {l : List UInt8} (h : inB 1 (l.length : Int) 6 = false) : readL l = -1 := by
  refine readL_no fun ⟨h1, h2⟩ => ?_
  have := (canL_iff.1 h1).2.1
  have e : inB 1 (l.length : Int) 6 = true := inB_iff.2 ⟨by omega, by omega⟩
  rw [h] at e
  cases e
theorem readL_zero {l : List UInt8} (h1 : 1 < l.length) (h0 : l[0]? = some 48) : readL l = -1 := by
  refine readL_no fun ⟨h, _⟩ => ?_
  rcases (canL_iff.1 h).2.2 with h2 | h2
  · omega
  · exact h2 h0
theorem readL_other {l : List UInt8} {k : Nat} (h : k < l.length) (h2 : digB (l[k]'h) = false) : readL l = -1 :=
  readL_no fun ⟨h1, _⟩ => absurd (List.getElem_mem h) (can_not h1 h2)
theorem num_small {l : List UInt8} {k : Nat} (hk : k ≤ 6) (hd : (l.take k).all digB = true) : numL (l.take k) < 1000000 := by
  have h := numF_lt 0 (l.take k) hd
  have h2 : 10 ^ (l.take k).length ≤ 10 ^ 6 := Nat.pow_le_pow_right (by omega) (by rw [List.length_take]; omega)
  unfold numL
  omega
theorem decT_size (n : Nat) (h : n ≤ 1000000) : (decT n).size ≤ 30 := by
  have := Lib.itoa_length_le (n : Int) (by omega) (by omega)
  rw [Lib.itoa_nonneg] at this
  have e : (decT n).size = (Lib.decDigits n).length := by unfold decT; simp [ByteArray.size]
  omega
/-- The digits of a number, as a list. -/
def decL (n : Nat) : List UInt8 := Lib.decDigits n
theorem decT_list (n : Nat) : decT n = bs (decL n) := rfl
theorem cat_run {P : Program} (l m : List UInt8) (h : l.length + m.length ≤ 1000000000) (W : World) : (Op.stringOp .add (bs l) (bs m)).run P W = .ok (.string (bs (l ++ m))) W := by
  rw [run_string_add_sum W _ _ (by rw [bs_size, bs_size]; omega), bs_app]
theorem cat_one {P : Program} (l : List UInt8) (c : UInt8) (h : l.length ≤ 100000000) (W : World) : (Op.stringOp .add (bs l) ⟨#[c]⟩).run P W = .ok (.string (bs (l ++ [c]))) W := cat_run l [c] (by simp; omega) W
theorem cat_first {P : Program} (l : List UInt8) (c : UInt8) (h : l.length ≤ 100000000) (W : World) : (Op.stringOp .add ⟨#[c]⟩ (bs l)).run P W = .ok (.string (bs (c :: l))) W := cat_run [c] l (by simp; omega) W
theorem decL_size (n : Nat) (h : n ≤ 1000000) : (decL n).length ≤ 30 := decT_size n h

end Go.Proofs.YtfimjfchdaioeaaDoor
