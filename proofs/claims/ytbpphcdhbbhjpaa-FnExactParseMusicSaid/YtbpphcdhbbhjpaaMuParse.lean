/- Plain mathematics of the text of music: what is read out of it. No conditions but those written in each theorem. -/
import Derived.Test.YtbpphcdhbbhjpaaMus
import Derived.Test.YtbpphcdhbbhjpaaDecCan
import Derived.Test.YtbpphcdhbbhjpaaMuText
namespace Go.Proofs.Ytbpphcdhbbhjpaa
open Go.RowKit


/-- The texts of measures, a blank behind each. -/
def encM : List (Int × Int) → List UInt8
  | [] => []
  | p :: r => mtxt p.1 p.2 ++ 32 :: encM r
theorem encM_app (l m : List (Int × Int)) : encM (l ++ m) = encM l ++ encM m := by
  induction l with
  | nil => rfl
  | cons p r ih => simp [encM, ih]
theorem encM_take (l : List (Int × Int)) : ∀ k, 1 ≤ k → k ≤ l.length → encM (l.take k) = mutx l k ++ [32]
  | 0, h, _ => absurd h (by omega)
  | k + 1, _, hk => by
    have e : l.take (k + 1) = l.take k ++ [l[k]'(by omega)] := by
      rw [List.take_add_one, List.getElem?_eq_getElem (by omega)]; rfl
    have e2 : encM [l[k]'(by omega)] = mtxt (sx l k) (sy l k) ++ [32] := by
      have h0 : l.getD k (0, 0) = l[k]'(by omega) := by simp [List.getD_eq_getElem?_getD, List.getElem?_eq_getElem (show k < l.length by omega)]
      unfold sx sy
      rw [h0]
      rfl
    rw [e, encM_app, e2]
    by_cases h : k = 0
    · subst h
      rw [mutx_zero]
      rfl
    · rw [encM_take l k (by omega) (by omega), mutx_more l (by omega)]
      simp
theorem encM_all {l : List (Int × Int)} (h : 1 ≤ l.length) : encM l = mutx l l.length ++ [32] := by
  have := encM_take l l.length h (Nat.le_refl _)
  rwa [List.take_length] at this
/-- The reading, sign by sign: the kind of number, the counts, the signs of the number, the measures so far. -/
def rdM : Bool → Int → List UInt8 → List (Int × Int) → List UInt8 → Option (List (Int × Int))
  | _, _, cur, acc, [] => if cur = [] then some acc else none
  | false, c, cur, acc, b :: r => if b = 64 then (if okN cur 12 = true then rdM true (numL cur : Nat) [] acc r else none) else rdM false c (cur ++ [b]) acc r
  | true, c, cur, acc, b :: r => if b = 32 then (if okN cur 220 = true then rdM false c [] (acc ++ [(c, ((numL cur : Nat) : Int))]) r else none) else rdM true c (cur ++ [b]) acc r
/-- The sign that ends a number. -/
def endS (k : Bool) : UInt8 := if k then 32 else 64
theorem rdM_other (k : Bool) (c : Int) (acc : List (Int × Int)) {b : UInt8} (hb : b ≠ endS k) (cur r : List UInt8) : rdM k c cur acc (b :: r) = rdM k c (cur ++ [b]) acc r := by
  cases k
  · have hb' : ¬ b = 64 := hb
    rw [rdM, if_neg hb']
  · have hb' : ¬ b = 32 := hb
    rw [rdM, if_neg hb']
theorem rdM_skip (k : Bool) (c : Int) (acc : List (Int × Int)) : ∀ (m : List UInt8), (∀ b ∈ m, b ≠ endS k) → ∀ cur r, rdM k c cur acc (m ++ r) = rdM k c (cur ++ m) acc r
  | [], _, cur, r => by simp
  | b :: m, h, cur, r => by
    rw [List.cons_append, rdM_other k c acc (h b (by simp)), rdM_skip k c acc m (fun x hx => h x (by simp [hx]))]
    simp
theorem dec_not (n : Nat) (k : Bool) : ∀ b ∈ decL n, b ≠ endS k := by
  intro b hb e
  subst e
  exact can_not (dec_can n) (c := endS k) (by cases k <;> rfl) hb
theorem rdM_enc : ∀ (l : List (Int × Int)), (∀ p ∈ l, (0 ≤ p.1 ∧ p.1 ≤ 12) ∧ 0 ≤ p.2 ∧ p.2 ≤ 220) → ∀ (c : Int) (acc : List (Int × Int)), rdM false c [] acc (encM l) = some (acc ++ l)
  | [], _, c, acc => by simp [encM, rdM]
  | p :: r, h, c, acc => by
    obtain ⟨⟨h1, h2⟩, h3, h4⟩ := h p (by simp)
    have e : encM (p :: r) = decL p.1.toNat ++ 64 :: (decL p.2.toNat ++ 32 :: encM r) := by simp [encM, mtxt]
    rw [e, rdM_skip _ _ _ _ (dec_not _ _), List.nil_append, rdM, if_pos rfl, if_pos (dec_ok _ _ (by omega)), rdM_skip _ _ _ _ (dec_not _ _), List.nil_append, rdM, if_pos rfl, if_pos (dec_ok _ _ (by omega)),
      rdM_enc r (fun q hq => h q (by simp [hq]))]
    have e1 : ((numL (decL p.1.toNat) : Nat) : Int) = p.1 := by unfold decL; rw [dec_val]; omega
    have e2 : ((numL (decL p.2.toNat) : Nat) : Int) = p.2 := by unfold decL; rw [dec_val]; omega
    rw [e1, e2]
    simp
/-- What was read so far, as a text. -/
def preM (k : Bool) (c : Int) (cur : List UInt8) (acc : List (Int × Int)) : List UInt8 := encM acc ++ ((if k then decL c.toNat ++ [64] else []) ++ cur)
theorem rdM_sound : ∀ (r : List UInt8) (k : Bool) (c : Int) (cur : List UInt8) (acc l : List (Int × Int)), (r = [] ∧ (k = false ∨ cur ≠ [])) ∨ (∃ r0, r = r0 ++ [32]) → rdM k c cur acc r = some l → preM k c cur acc ++ r = encM l
  | [], k, c, cur, acc, l, he, h => by
    rw [rdM] at h
    by_cases hc : cur = []
    · rw [if_pos hc] at h
      cases h
      rcases he with ⟨_, hk | hk⟩ | ⟨r0, hr⟩
      · subst hk hc; simp [preM]
      · exact absurd hc hk
      · simp at hr
    · rw [if_neg hc] at h; cases h
  | b :: r, k, c, cur, acc, l, he, h => by
    have hend : ∀ (k' : Bool) (cur' : List UInt8), (r = [] → k' = false ∨ cur' ≠ []) → (r = [] ∧ (k' = false ∨ cur' ≠ [])) ∨ (∃ r0, r = r0 ++ [32]) := by
      intro k' cur' hh
      by_cases hr : r = []
      · exact .inl ⟨hr, hh hr⟩
      · right
        rcases he with ⟨h0, _⟩ | ⟨r0, h0⟩
        · cases h0
        · cases r0 with
          | nil => simp at h0; exact absurd h0.2 hr
          | cons x r1 => simp at h0; exact ⟨r1, h0.2⟩
    have hlast : r = [] → b = 32 := by
      intro hr
      rcases he with ⟨h0, _⟩ | ⟨r0, h0⟩
      · cases h0
      · subst hr
        cases r0 with
        | nil => simpa using h0
        | cons x r1 => simp at h0
    by_cases hb : b = endS k
    · cases k
      · have hb' : b = 64 := hb
        rw [rdM, if_pos hb'] at h
        by_cases ho : okN cur 12 = true
        · rw [if_pos ho] at h
          have ih := rdM_sound r _ _ _ _ _ (hend true [] (fun hr => by rw [hlast hr] at hb'; exact absurd hb' (by decide))) h
          rw [← ih]
          have e1 : decL (numL cur) = cur := okN_dec ho
          simp [preM, e1, hb']
        · rw [if_neg ho] at h; cases h
      · have hb' : b = 32 := hb
        rw [rdM, if_pos hb'] at h
        by_cases ho : okN cur 220 = true
        · rw [if_pos ho] at h
          have ih := rdM_sound r _ _ _ _ _ (hend false [] (fun _ => .inl rfl)) h
          rw [← ih]
          have e1 : decL (numL cur) = cur := okN_dec ho
          simp [preM, encM_app, encM, mtxt, e1, hb']
        · rw [if_neg ho] at h; cases h
    · rw [rdM_other k c acc hb] at h
      have ih := rdM_sound r _ _ _ _ _ (hend k (cur ++ [b]) (fun _ => .inr (by simp))) h
      rw [← ih]
      simp [preM]
theorem mem_pair {l : List (Int × Int)} (hm : musOk l = true) : ∀ p ∈ l, (0 ≤ p.1 ∧ p.1 ≤ 12) ∧ 0 ≤ p.2 ∧ p.2 ≤ 220 := by
  intro p hp
  obtain ⟨i, hi, rfl⟩ := List.mem_iff_getElem.1 hp
  have h := musOk_at hm i hi
  have h0 : l.getD i (0, 0) = l[i]'hi := by simp [List.getD_eq_getElem?_getD, List.getElem?_eq_getElem hi]
  unfold sx sy at h
  rw [h0] at h
  omega
theorem rdM_iff {s : List UInt8} {l : List (Int × Int)} (hm : musOk l = true) : rdM false 0 [] [] (s ++ [32]) = some l ↔ mutx l l.length = s := by
  have hl := (musOk_len hm).1
  constructor
  · intro h
    have h2 := rdM_sound _ _ _ _ _ _ (.inr ⟨s, rfl⟩) h
    rw [encM_all hl] at h2
    simp [preM, encM] at h2
    exact h2.symm
  · intro h
    have h2 := rdM_enc l (mem_pair hm) 0 []
    rw [encM_all hl, h] at h2
    simpa using h2
/-- The music of a text, and whether there is one. -/
def parB (s : List UInt8) : Bool := match rdM false 0 [] [] (s ++ [32]) with | some l => musOk l | none => false
def parL (s : List UInt8) : List (Int × Int) := match rdM false 0 [] [] (s ++ [32]) with | some l => if musOk l then l else [] | none => []
theorem par_none {s : List UInt8} (h : rdM false 0 [] [] (s ++ [32]) = none) : parB s = false ∧ parL s = [] := by unfold parB parL; rw [h]; exact ⟨rfl, rfl⟩
theorem par_some {s : List UInt8} {l : List (Int × Int)} (h : rdM false 0 [] [] (s ++ [32]) = some l) : parB s = musOk l ∧ parL s = if musOk l then l else [] := by unfold parB parL; rw [h]; exact ⟨rfl, rfl⟩
theorem par_yes {s : List UInt8} {l : List (Int × Int)} (hm : musOk l = true) (h : mutx l l.length = s) : parB s = true ∧ parL s = l := by
  have := par_some ((rdM_iff hm).2 h)
  rw [hm] at this
  exact this
theorem par_inv {s : List UInt8} (h : parB s = true) : ∃ l, musOk l = true ∧ mutx l l.length = s ∧ parL s = l := by
  cases e : rdM false 0 [] [] (s ++ [32]) with
  | none => rw [(par_none e).1] at h; cases h
  | some l =>
    have h2 := par_some e
    have hm : musOk l = true := h2.1.symm.trans h
    rw [hm] at h2
    exact ⟨l, hm, (rdM_iff hm).1 e, h2.2⟩
theorem par_no {s : List UInt8} (h : parB s = false) : parL s = [] := by
  cases e : rdM false 0 [] [] (s ++ [32]) with
  | none => exact (par_none e).2
  | some l =>
    have h2 := par_some e
    rw [h2.1.symm.trans h] at h2
    exact h2.2
theorem parL_len (s : List UInt8) : (parL s).length ≤ 40 := by
  cases h : parB s
  · rw [par_no h]; simp
  · obtain ⟨l, hm, _, e⟩ := par_inv h
    rw [e]
    exact (musOk_len hm).2
/-- The words of a text of music, and the pieces of a word. -/
theorem word_split (c t : Nat) : splitL 64 (decL c ++ 64 :: decL t) = [decL c, decL t] := by
  have h1 : (64 : UInt8) ∉ decL c := fun h => dec_not c false _ h rfl
  have h2 : (64 : UInt8) ∉ decL t := fun h => dec_not t false _ h rfl
  rw [splitL_some h1, splitL_none h2]
theorem word_blank (c t : Int) : (32 : UInt8) ∉ mtxt c t := by
  unfold mtxt
  intro h
  rw [List.mem_append, List.mem_cons] at h
  rcases h with h | h | h
  · exact dec_not _ true _ h rfl
  · exact absurd h (by decide)
  · exact dec_not _ true _ h rfl
theorem split_enc : ∀ (l : List (Int × Int)), l ≠ [] → ∀ s, encM l = s ++ [32] → splitL 32 s = l.map fun p => mtxt p.1 p.2
  | [], h, _, _ => absurd rfl h
  | [p], _, s, hs => by
    have e : s = mtxt p.1 p.2 := by
      have : encM [p] = mtxt p.1 p.2 ++ [32] := rfl
      rw [this] at hs
      exact (List.append_cancel_right hs).symm
    rw [e, splitL_none (word_blank _ _)]
    rfl
  | p :: q :: r, _, s, hs => by
    have hne : encM (q :: r) ≠ [] := by simp [encM]
    obtain ⟨s', hs'⟩ : ∃ s', encM (q :: r) = s' ++ [32] := ⟨_, encM_all (by simp)⟩
    have e : s = mtxt p.1 p.2 ++ 32 :: s' := by
      have e1 : encM (p :: q :: r) = mtxt p.1 p.2 ++ 32 :: encM (q :: r) := rfl
      rw [e1, hs'] at hs
      have e2 : mtxt p.1 p.2 ++ 32 :: (s' ++ [32]) = (mtxt p.1 p.2 ++ 32 :: s') ++ [32] := by simp
      rw [e2] at hs
      exact (List.append_cancel_right hs).symm
    rw [e, splitL_some (word_blank _ _), split_enc (q :: r) (by simp) s' hs']
    rfl
theorem split_mutx {l : List (Int × Int)} (h : 1 ≤ l.length) : splitL 32 (mutx l l.length) = l.map fun p => mtxt p.1 p.2 :=
  split_enc l (fun e => by rw [e] at h; exact absurd h (by simp)) _ (encM_all h)
theorem read_dec {c : Int} (h0 : 0 ≤ c) (h1 : c ≤ 999) : readL (decL c.toNat) = c := by
  have hv : numL (decL c.toNat) = c.toNat := dec_val _
  have hc : canL (decL c.toNat) = true := dec_can _
  rw [readL_yes hc (by have := can_short (dec_can c.toNat) (by rw [dec_val]; omega); unfold decL; omega), hv]
  omega

end Go.Proofs.Ytbpphcdhbbhjpaa
