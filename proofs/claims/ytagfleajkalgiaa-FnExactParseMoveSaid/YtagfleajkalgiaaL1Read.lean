/- The other side's reading of a number. No conditions but those written in each theorem. -/
import Derived.Test.YtagfleajkalgiaaNum
import Derived.Deep.RegionHeld3
import Derived.Deep.DrawnRows
import Derived.IntWalk
namespace Go.Proofs.Ytagfleajkalgiaa
open Go.RowKit


attribute [local go_sem ↓] Go.wp_at_zero Go.wp_at_succ

set_option maxHeartbeats 1000000 in
theorem l1Read_len (l : List UInt8) (h : inB 1 (l.length : Int) 6 = false) (w : World) :
    Calls Try.prog 53 #[.string (bs l)] w fun e w' => e = .returned (.int .i64 (-1)) ∧ Below w.heap.size w w' := by
  have hz := bs_size l
  go_enter Try.func53, Try.ntmps53
  go_wp2_with (go_at_call 48; (refine (l1In_any _ _ _ _).mono ?_; rintro e w' ⟨rfl, rfl⟩))
  go_ret
  exact ⟨rfl, (by repeat (first | exact Below.refl _ _ | assumption | refine Below.drew ?_ | refine below_drewN ?_ _ | refine Below.alloc ?_ (by first | omega | (simp; done) | (simp; omega)) _ | refine Below.setCell ?_ (by first | omega | (simp; done) | (simp; omega)) _ | refine Below.trans ?_ (Below.mono (by assumption) (by first | omega | (simp; done) | (simp; omega)))))⟩
theorem get_zero {l : List UInt8} (hpos : 0 < l.length) (b : Bool) (h0 : (l[0]? = some 48) = (b = true)) : ∀ h : 0 < (bs l).size, ((((bs l)[0]'h).toNat : Int) == 48) = b := by
  intro h
  rw [bs_get h hpos]
  rw [List.getElem?_eq_getElem hpos] at h0
  cases b
  · rw [beq_eq_false_iff_ne]
    intro e
    have e' : (l[0]'hpos).toNat = 48 := by omega
    have : some (l[0]'hpos) = some 48 := congrArg some (UInt8.toNat_inj.1 (by simpa using e'))
    rw [h0] at this
    cases this
  · have := Option.some.inj (h0.symm ▸ rfl : some (l[0]'hpos) = some 48)
    rw [this]
    rfl
set_option maxHeartbeats 1000000 in
theorem l1Read_zero (l : List UInt8) (h : inB 1 (l.length : Int) 6 = true) (h1 : 1 < l.length) (h0 : l[0]? = some 48) (w : World) :
    Calls Try.prog 53 #[.string (bs l)] w fun e w' => e = .returned (.int .i64 (-1)) ∧ Below w.heap.size w w' := by
  have hpos : 0 < l.length := by omega
  have hz := bs_size l
  have e4 := get_zero hpos true (by simp [h0])
  have e3 : 1 < (l.length : Int) := by omega
  clear h0
  go_enter Try.func53, Try.ntmps53
  go_wp2_with (go_at_call 48; (refine (l1In_any _ _ _ _).mono ?_; rintro e w' ⟨rfl, rfl⟩))
  go_ret
  exact ⟨rfl, (by repeat (first | exact Below.refl _ _ | assumption | refine Below.drew ?_ | refine below_drewN ?_ _ | refine Below.alloc ?_ (by first | omega | (simp; done) | (simp; omega)) _ | refine Below.setCell ?_ (by first | omega | (simp; done) | (simp; omega)) _ | refine Below.trans ?_ (Below.mono (by assumption) (by first | omega | (simp; done) | (simp; omega)))))⟩
set_option maxHeartbeats 1000000 in
theorem l1Read_loop (l : List UInt8) (h : inB 1 (l.length : Int) 6 = true) (h0 : l.length = 1 ∨ l[0]? ≠ some 48) (w : World) :
    Calls Try.prog 53 #[.string (bs l)] w fun e w' => e = .returned (.int .i64 (readL l)) ∧ Below w.heap.size w w' := by
  obtain ⟨b1, b2⟩ := inB_iff.1 h
  have hpos : 0 < l.length := by omega
  have hz := bs_size l
  have hcan : l.all digB = true → readL l = numL l := fun hd => readL_yes (canL_iff.2 ⟨hd, hpos, h0⟩) (by omega)
  have Hcan := Lib.hid hcan
  have e3 : (¬ 1 < (l.length : Int) ∧ ∃ b, ∀ h : 0 < (bs l).size, ((((bs l)[0]'h).toNat : Int) == 48) = b) ∨ ∀ h : 0 < (bs l).size, ((((bs l)[0]'h).toNat : Int) == 48) = false := by
    by_cases h1 : l.length = 1
    · left
      refine ⟨by omega, (((((bs l)[0]'hpos).toNat : Int) == 48)), fun _ => rfl⟩
    · right
      rcases h0 with h0 | h0
      · exact absurd h0 h1
      · exact get_zero hpos false (by simp [h0])
  clear hcan h0
  rcases e3 with ⟨e3, b, e4⟩ | e3
  case' inl => cases b
  all_goals
    go_enter Try.func53, Try.ntmps53
    go_wp2_with (go_at_call 48; (refine (l1In_any _ _ _ _).mono ?_; rintro e w' ⟨rfl, rfl⟩))
    go_loopw [3, 4] (fun nv iv wr => ∃ k : Nat, k ≤ l.length ∧ iv = .int .i64 k ∧ nv = .int .i64 (numL (l.take k)) ∧ (l.take k).all digB = true ∧ Below w.heap.size w wr) (fun _ iv _ => l.length - (intOf iv).toNat)
    case atStart => exact ⟨0, Nat.zero_le _, rfl, rfl, rfl, (by repeat (first | exact Below.refl _ _ | assumption | refine Below.drew ?_ | refine below_drewN ?_ _ | refine Below.alloc ?_ (by first | omega | (simp; done) | (simp; omega)) _ | refine Below.setCell ?_ (by first | omega | (simp; done) | (simp; omega)) _ | refine Below.trans ?_ (Below.mono (by assumption) (by first | omega | (simp; done) | (simp; omega)))))⟩
    case round =>
      obtain ⟨k, hk, rfl, rfl, hda, hbw⟩ := hrel
      by_cases hlt : k < l.length
      · have i0 : (0 : Int) ≤ (k : Int) := by omega
        have i1 : (k : Int) < (l.length : Int) := by omega
        have hget : ∀ h, (bs l)[k]'h = l[k]'hlt := fun h => bs_get h hlt
        obtain ⟨c, hc⟩ : ∃ c, c = (l[k]'hlt).toNat := ⟨_, rfl⟩
        have hgc : ∀ h, ((bs l)[k]'h).toNat = c := fun h => by rw [hget h, hc]
        cases hdg : digB (l[k]'hlt)
        · have hno := readL_other hlt hdg
          have hn : ¬ (48 ≤ c ∧ c ≤ 57) := by
            intro e
            rw [hc] at e
            rw [digB_iff.2 e] at hdg
            cases hdg
          clear hget hda hdg hc
          by_cases hc1 : c < 48
          · have c1 : (c : Int) < 48 := by omega
            go_wp2
            go_ret
            first | exact ⟨rfl, hbw⟩ | exact ⟨by rw [hno]; rfl, hbw⟩
          · have c1 : ¬ (c : Int) < 48 := by omega
            have c2 : (57 : Int) < (c : Int) := by omega
            go_wp2
            go_ret
            first | exact ⟨rfl, hbw⟩ | exact ⟨by rw [hno]; rfl, hbw⟩
        · obtain ⟨d1, d2⟩ := digB_iff.1 hdg
          have hnt := num_take hlt
          have hat := all_take hlt hda hdg
          have hsm := num_small (k := k) (by omega) hda
          rw [← hc] at hnt d1 d2
          obtain ⟨n, hn⟩ : ∃ n, n = numL (l.take k) := ⟨_, rfl⟩
          rw [← hn] at hnt hsm ⊢
          clear hget hda hdg hc hn
          have c1 : ¬ (c : Int) < 48 := by omega
          have c2 : ¬ (57 : Int) < (c : Int) := by omega
          have v1 : IntKind.i64.wrap (10 * (n : Int)) = 10 * (n : Int) := IntWalk.i64_in _ (by omega)
          have v2 : IntKind.u8.wrap ((c : Int) - 48) = (c : Int) - 48 := by
            have hb : 0 ≤ (c : Int) - 48 ∧ (c : Int) - 48 ≤ 255 := by omega
            exact IntWalk.u8_in _ hb
          have v3 : IntKind.i64.wrap ((c : Int) - 48) = (c : Int) - 48 := IntWalk.i64_in _ (by omega)
          have v4 : IntKind.i64.wrap (10 * (n : Int) + ((c : Int) - 48)) = 10 * (n : Int) + ((c : Int) - 48) := IntWalk.i64_in _ (by omega)
          go_wp2
          go_roundw
          case rel => exact ⟨k + 1, by omega, by go_num, by rw [hnt]; exact congrArg (Value.int .i64) (by omega), hat, hbw⟩
          case measure => simp [intOf]; omega
      · obtain rfl : k = l.length := by omega
        rw [List.take_length] at hda ⊢
        have hv := Hcan.out hda
        go_wp2
        go_ret
        first | exact ⟨rfl, hbw⟩ | exact ⟨by rw [hv]; rfl, hbw⟩
theorem l1Read_any (l : List UInt8) (w : World) :
    Calls Try.prog 53 #[.string (bs l)] w fun e w' => e = .returned (.int .i64 (readL l)) ∧ Below w.heap.size w w' := by
  cases h : inB 1 (l.length : Int) 6
  · rw [readL_len h]
    exact l1Read_len l h w
  · by_cases h0 : l.length = 1 ∨ l[0]? ≠ some 48
    · exact l1Read_loop l h h0 w
    · have b1 := (inB_iff.1 h).1
      have h1 : 1 < l.length := by
        by_cases e : l.length = 1
        · exact absurd (Or.inl e) h0
        · omega
      have h2 : l[0]? = some 48 := by
        by_cases e : l[0]? = some 48
        · exact e
        · exact absurd (Or.inr e) h0
      rw [readL_zero h1 h2]
      exact l1Read_zero l h h1 h2 w

end Go.Proofs.Ytagfleajkalgiaa
