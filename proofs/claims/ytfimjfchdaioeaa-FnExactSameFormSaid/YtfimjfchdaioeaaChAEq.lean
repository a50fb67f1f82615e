/- Places and arrays of places, compared. Conditions: those written in each theorem. -/
import Derived.Test.YtfimjfchdaioeaaChPlc
import Derived.Test.YtfimjfchdaioeaaChMap
import Derived.DeepKeys
import Derived.Laws.StructEq
import Derived.DeepKeys4
namespace Go.Proofs.Ytfimjfchdaioeaa
open Go.RowKit Go.Maps


theorem mapM_some {α β : Type} {F : α → Option β} {G : α → β} : ∀ {is : List α}, (∀ i ∈ is, F i = some (G i)) → is.mapM F = some (is.map G)
  | [], _ => rfl
  | i :: is, h => by
    rw [List.mapM_cons, h i List.mem_cons_self, mapM_some (fun j hj => h j (List.mem_cons_of_mem _ hj))]
    rfl
theorem Try.kty71 : Try.prog.keyTypeAt 2 71 = true := by kernel_rfl
theorem Try.kty72 : Try.prog.keyTypeAt 3 72 = true := by kernel_rfl
theorem lits71 (m : Nat) {a b : Int} (ha : (Lit.int .i64 a).wf = true) (hb : (Lit.int .i64 b).wf = true) : Try.prog.keyLits (m + 2) 71 [.int .i64 a, .int .i64 b] = some [Lit.int .i64 a, Lit.int .i64 b] := by
  have hc : Try.prog.cellsOf 71 = 2 := by kernel_rfl
  have hc3 : Try.prog.cellsOf 3 = 1 := by kernel_rfl
  have hu := Try.underlying71
  have h3 := Try.underlying3
  have hx3 : Try.prog.keyLits (m + 1) 3 [.int .i64 a] = some [Lit.int .i64 a] := by simp [Program.keyLits, h3, ha]
  have hy3 : Try.prog.keyLits (m + 1) 3 [.int .i64 b] = some [Lit.int .i64 b] := by simp [Program.keyLits, h3, hb]
  unfold Program.keyLits
  rw [hu]
  simp [hc, hc3, hx3, hy3, List.range_succ]
theorem formed71 (a b : Int) : (Value.agg #[.int .i64 a, .int .i64 b]).formed Try.prog 71 = true := by
  have hc : Try.prog.cellsOf 71 = 2 := by kernel_rfl
  simp only [Value.formed, Try.underlying71, hc]
  rfl
/-- Two places of the program, compared. -/
theorem eqPlace {x1 y1 x2 y2 : Int} (h1 : (Lit.int .i64 x1).wf = true) (h2 : (Lit.int .i64 y1).wf = true) (h3 : (Lit.int .i64 x2).wf = true) (h4 : (Lit.int .i64 y2).wf = true) (w : World) :
    (Op.equalIn 10000 71 (.agg #[.int .i64 x1, .int .i64 y1]) (.agg #[.int .i64 x2, .int .i64 y2])).run Try.prog w = .ok (decide (x1 = x2) && decide (y1 = y2)) w := by
  obtain ⟨r, hr, hiff⟩ := run_equalIn_deep 9998 2 71 Try.kty71 w 2 2 _ _ _ _ (formed71 x1 y1) (formed71 x2 y2) (lits71 0 h1 h2) (lits71 0 h3 h4)
  have e : r = (decide (x1 = x2) && decide (y1 = y2)) := by
    rw [Bool.eq_iff_iff, hiff]
    simp
  rw [← e]
  exact hr
/-- The numbers of an array. -/
theorem plA_list (l : List (Int × Int)) : (plA l).toList = (List.range 24).map (fun c => Value.int .i64 (rowN l l.length c)) := by
  show (List.range 24).map (rowF l l.length) = _
  exact List.map_congr_left (fun c _ => rowF_int _ _ _)
theorem plA_part (l : List (Int × Int)) {i : Nat} (hi : i < 12) : (((plA l).toList.drop (i * 2)).take 2) = [.int .i64 (rowN l l.length (i * 2)), .int .i64 (rowN l l.length (i * 2 + 1))] := by
  rw [plA_list]
  apply List.ext_getElem?
  intro j
  rw [List.getElem?_take]
  match j with
  | 0 => simp [show i * 2 < 24 by omega]
  | 1 => simp [show i * 2 + 1 < 24 by omega]
  | j + 2 => rw [if_neg (by omega)]; simp
theorem lits72 {l : List (Int × Int)} (hw : ∀ c, c < 24 → (Lit.int .i64 (rowN l l.length c)).wf = true) : Try.prog.keyLits 3 72 (plA l).toList = some ((List.range 12).map (fun i => [Lit.int .i64 (rowN l l.length (i * 2)), Lit.int .i64 (rowN l l.length (i * 2 + 1))])).flatten := by
  have hc : Try.prog.cellsOf 72 = 24 := by kernel_rfl
  have hc1 : Try.prog.cellsOf 71 = 2 := by kernel_rfl
  unfold Program.keyLits
  rw [Try.underlying72]
  simp only [hc, hc1]
  rw [if_pos (by rw [Array.length_toList, plA_size]), mapM_some (G := fun i => [Lit.int .i64 (rowN l l.length (i * 2)), Lit.int .i64 (rowN l l.length (i * 2 + 1))]) (fun i hi => ?_)]
  · rfl
  · have hi := List.mem_range.1 hi
    rw [plA_part l hi]
    exact lits71 0 (hw _ (by omega)) (hw _ (by omega))
theorem formed72 (l : List (Int × Int)) : (Value.agg (plA l)).formed Try.prog 72 = true := by
  have hc : Try.prog.cellsOf 72 = 24 := by kernel_rfl
  simp only [Value.formed, Try.underlying72, hc, plA_size]
  rfl
theorem flat_len (f g : Nat → Lit) : ∀ n, ((List.range n).map (fun i => [f i, g i])).flatten.length = n * 2
  | 0 => rfl
  | n + 1 => by rw [List.range_succ, List.map_append, List.flatten_append, List.length_append, flat_len f g n]; simp; omega
theorem flat2 {f g f' g' : Nat → Lit} : ∀ n, ((List.range n).map (fun i => [f i, g i])).flatten = ((List.range n).map (fun i => [f' i, g' i])).flatten → ∀ i, i < n → f i = f' i ∧ g i = g' i
  | 0, _, i, hi => absurd hi (Nat.not_lt_zero i)
  | n + 1, h, i, hi => by
    rw [List.range_succ, List.map_append, List.map_append, List.flatten_append, List.flatten_append] at h
    obtain ⟨h1, h2⟩ := List.append_inj h (by rw [flat_len, flat_len])
    by_cases e : i = n
    · subst e
      simp at h2
      exact h2
    · exact flat2 n h1 i (by omega)
/-- Two arrays of places, compared. -/
theorem eqArr {l1 l2 : List (Int × Int)} (h1 : ∀ c, c < 24 → (Lit.int .i64 (rowN l1 l1.length c)).wf = true) (h2 : ∀ c, c < 24 → (Lit.int .i64 (rowN l2 l2.length c)).wf = true) (w : World) :
    ∃ r, (Op.equalIn 10000 72 (.agg (plA l1)) (.agg (plA l2))).run Try.prog w = .ok r w ∧ (r = true ↔ ∀ c, c < 24 → rowN l1 l1.length c = rowN l2 l2.length c) := by
  obtain ⟨r, hr, hiff⟩ := run_equalIn_deep 9997 3 72 Try.kty72 w 3 3 _ _ _ _ (formed72 l1) (formed72 l2) (lits72 h1) (lits72 h2)
  refine ⟨r, hr, hiff.trans ⟨fun e c hc => ?_, fun e => ?_⟩⟩
  · have h := flat2 12 e (c / 2) (by omega)
    simp only [Lit.int.injEq, true_and] at h
    rcases (show c = c / 2 * 2 ∨ c = c / 2 * 2 + 1 by omega) with e1 | e1
    · rw [e1]; exact h.1
    · rw [e1]; exact h.2
  · rw [List.map_congr_left (f := fun i => [Lit.int .i64 (rowN l1 l1.length (i * 2)), Lit.int .i64 (rowN l1 l1.length (i * 2 + 1))]) (g := fun i => [Lit.int .i64 (rowN l2 l2.length (i * 2)), Lit.int .i64 (rowN l2 l2.length (i * 2 + 1))]) (fun i hi => by
      have hi := List.mem_range.1 hi
      rw [e _ (by omega), e _ (by omega)])]

end Go.Proofs.Ytfimjfchdaioeaa
