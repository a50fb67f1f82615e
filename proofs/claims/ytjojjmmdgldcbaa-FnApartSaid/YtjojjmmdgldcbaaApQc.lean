/- Comparisons that the laws of chapter 6 make. Conditions: those written in each theorem. -/
import Derived.Test.YtjojjmmdgldcbaaApFr
import Derived.Test.YtjojjmmdgldcbaaInts
import Derived.Deep.RegionHeld3
import Derived.Deep.DrawnRows
import Derived.IntWalk
import Derived.StillTailTactics
import Derived.Lib.QuietBelow
namespace Go.Proofs.Ytjojjmmdgldcbaa
open Go.RowKit Go.Sort


attribute [local go_sem ↓] Go.wp_at_zero Go.wp_at_succ

set_option maxHeartbeats 2000000 in
theorem qless_whole (a b c d : Int) (a0 : 0 ≤ a) (a1 : a ≤ 1000000000000000) (b0 : 0 < b) (b1 : b ≤ 10000000) (c0 : 0 ≤ c) (c1 : c ≤ 1000000000000000) (d0 : 0 < d) (d1 : d ≤ 10000000) (hne : ¬ a / b = c / d) (w : World) :
    Calls Try.prog 44 #[.int .i64 a, .int .i64 b, .int .i64 c, .int .i64 d] w fun e w' => e = .returned (.bool (fLt a b c d)) ∧ Below w.heap.size w w' := by
  obtain ⟨q1, q2, q3, q4, q5, q6, q7⟩ := nadd
  have hf := fLt_parts a0 b0 c0 d0
  rw [hf]
  obtain ⟨u, x, hu, hx, u1, u2, u3, u4, u5, u6, u7, u8, x0, x1⟩ := quo_facts a0 a1 b0
  obtain ⟨v, y, hv, hy, v1, v2, v3, v4, v5, v6, v7, v8, y0, y1⟩ := quo_facts c0 c1 d0
  rw [← hu, ← hv] at hne
  rw [← hu, ← hv, ← hx, ← hy]
  rw [if_pos hne]
  obtain ⟨t, ht⟩ : ∃ t, decide (u < v) = t := ⟨_, rfl⟩
  rw [ht]
  have z1 : (u == v) = false := by simpa using hne
  have z2 : (u != v) = true := by simpa using hne
  clear hf hu hv hx hy x0 x1 y0 y1 a0 a1 b0 b1 c0 c1 d0 d1
  all_goals
    go_enter Try.func44, Try.ntmps44
    go_wp2
    go_quiet (fail)
    go_wp2
    go_quiet (fail)
    go_wp2
    first | exact bodyPost_ret (v := .bool t) (by simp [results, Try.results44, go_sem, *]) rfl ⟨rfl, (by repeat (first | exact Below.refl _ _ | assumption | refine Below.drew ?_ | refine below_drewN ?_ _ | refine Below.alloc ?_ (by first | omega | (simp; done) | (simp; omega)) _ | refine Below.setCell ?_ (by first | omega | (simp; done) | (simp; omega)) _ | refine Below.trans ?_ (Below.mono (by assumption) (by first | omega | (simp; done) | (simp; omega)))))⟩

set_option maxHeartbeats 2000000 in
theorem qless_rest (a b c d : Int) (a0 : 0 ≤ a) (a1 : a ≤ 1000000000000000) (b0 : 0 < b) (b1 : b ≤ 10000000) (c0 : 0 ≤ c) (c1 : c ≤ 1000000000000000) (d0 : 0 < d) (d1 : d ≤ 10000000) (hne : a / b = c / d) (w : World) :
    Calls Try.prog 44 #[.int .i64 a, .int .i64 b, .int .i64 c, .int .i64 d] w fun e w' => e = .returned (.bool (fLt a b c d)) ∧ Below w.heap.size w w' := by
  obtain ⟨q1, q2, q3, q4, q5, q6, q7⟩ := nadd
  have hf := fLt_parts a0 b0 c0 d0
  rw [hf]
  obtain ⟨u, x, hu, hx, u1, u2, u3, u4, u5, u6, u7, u8, x0, x1⟩ := quo_facts a0 a1 b0
  obtain ⟨v, y, hv, hy, v1, v2, v3, v4, v5, v6, v7, v8, y0, y1⟩ := quo_facts c0 c1 d0
  rw [← hu, ← hv] at hne
  rw [← hu, ← hv, ← hx, ← hy]
  rw [if_neg (by simpa using hne)]
  have p1 := mul_bd (a := x) (b := d) (m := 10000000) (n := 10000000) (by omega) (by omega) (by omega) (by omega)
  have p2 := mul_bd (a := y) (b := b) (m := 10000000) (n := 10000000) (by omega) (by omega) (by omega) (by omega)
  obtain ⟨g, hg⟩ : ∃ g, g = x * d := ⟨_, rfl⟩
  obtain ⟨k, hk⟩ : ∃ k, k = y * b := ⟨_, rfl⟩
  have w1' : IntKind.i64.wrap (x * d) = g := by rw [hg]; exact IntWalk.i64_in _ (by omega)
  have w2' : IntKind.i64.wrap (y * b) = k := by rw [hk]; exact IntWalk.i64_in _ (by omega)
  rw [← hg, ← hk]
  obtain ⟨t, ht⟩ : ∃ t, decide (g < k) = t := ⟨_, rfl⟩
  rw [ht]
  subst hne
  clear hf hu hv hx hy x0 x1 y0 y1 a0 a1 b0 b1 c0 c1 d0 d1 p1 p2 hg hk
  all_goals
    go_enter Try.func44, Try.ntmps44
    go_wp2
    go_quiet (fail)
    go_wp2
    go_quiet (fail)
    go_wp2
    first | exact bodyPost_ret (v := .bool t) (by simp [results, Try.results44, go_sem, *]) rfl ⟨rfl, (by repeat (first | exact Below.refl _ _ | assumption | refine Below.drew ?_ | refine below_drewN ?_ _ | refine Below.alloc ?_ (by first | omega | (simp; done) | (simp; omega)) _ | refine Below.setCell ?_ (by first | omega | (simp; done) | (simp; omega)) _ | refine Below.trans ?_ (Below.mono (by assumption) (by first | omega | (simp; done) | (simp; omega)))))⟩

theorem qLess_any (a b c d : Int) (a0 : 0 ≤ a) (a1 : a ≤ 1000000000000000) (b0 : 0 < b) (b1 : b ≤ 10000000) (c0 : 0 ≤ c) (c1 : c ≤ 1000000000000000) (d0 : 0 < d) (d1 : d ≤ 10000000) (w : World) :
    Calls Try.prog 44 #[.int .i64 a, .int .i64 b, .int .i64 c, .int .i64 d] w fun e w' => e = .returned (.bool (fLt a b c d)) ∧ Below w.heap.size w w' := by
  by_cases hne : a / b = c / d
  · exact qless_rest a b c d a0 a1 b0 b1 c0 c1 d0 d1 hne w
  · exact qless_whole a b c d a0 a1 b0 b1 c0 c1 d0 d1 hne w

set_option maxHeartbeats 1000000 in
theorem qHas_any (a : Option Addr) (cap : Nat) (xs : List Int) (x : Int) (hl : xs.length ≤ 1048576) {w : World} (ha : IntsAt w a xs) :
    Calls Try.prog 52 #[.slice a xs.length cap, .int .i64 x] w fun e w' => e = .returned (.bool (decide (x ∈ xs))) ∧ Below w.heap.size w w' := by
  go_enter Try.func52, Try.ntmps52
  go_wp2
  go_loopw [9] (fun i wr => ∃ k : Nat, k ≤ xs.length ∧ i = .int .i64 k ∧ Hid (∀ j, j < k → xs.getD j 0 ≠ x) ∧ Below w.heap.size w wr) (fun i _ => xs.length - (intOf i).toNat)
  case atStart => exact ⟨0, Nat.zero_le _, rfl, Lib.hid (fun j h => absurd h (Nat.not_lt_zero j)), Below.refl _ _⟩
  case round =>
    obtain ⟨k, hk, rfl, HN, hbr⟩ := hrel
    have hsr := hbr.size
    by_cases hlt : k < xs.length
    · obtain ⟨b, off, rfl, c0⟩ := (ha.below hbr) k hlt
      obtain ⟨y, hy⟩ : ∃ y : Int, y = xs.getD k 0 := ⟨_, rfl⟩
      rw [← hy] at c0
      have HY := Lib.hid hy
      have hym : y ∈ xs := by rw [hy, List.getD_eq_getElem?_getD, List.getElem?_eq_getElem hlt]; exact List.getElem_mem hlt
      have HYM := Lib.hid hym
      clear hy hym
      have i0 : (0 : Int) ≤ (k : Int) := by omega
      have i1 : (k : Int) < (xs.length : Int) := by omega
      by_cases he : y = x
      · subst he
        have hd : decide (y ∈ xs) = true := decide_eq_true HYM.out
        have HD := Lib.hid hd
        clear hd
        go_wp2
        go_ret
        exact ⟨by rw [HD.out]; rfl, (by repeat (first | exact Below.refl _ _ | assumption | refine Below.drew ?_ | refine below_drewN ?_ _ | refine Below.alloc ?_ (by first | omega | (simp; done) | (simp; omega)) _ | refine Below.setCell ?_ (by first | omega | (simp; done) | (simp; omega)) _ | refine Below.trans ?_ (Below.mono (by assumption) (by first | omega | (simp; done) | (simp; omega)))))⟩
      · have HN2 := Lib.hid (ext_lt (p := fun j => xs.getD j 0 ≠ x) HN.out (by rw [← HY.out]; exact he))
        have z1 : (y == x) = false := by simpa using he
        clear HN
        go_wp2
        go_roundw
        case rel => exact ⟨k + 1, by omega, by go_num, HN2, (by repeat (first | exact Below.refl _ _ | assumption | refine Below.drew ?_ | refine below_drewN ?_ _ | refine Below.alloc ?_ (by first | omega | (simp; done) | (simp; omega)) _ | refine Below.setCell ?_ (by first | omega | (simp; done) | (simp; omega)) _ | refine Below.trans ?_ (Below.mono (by assumption) (by first | omega | (simp; done) | (simp; omega)))))⟩
        case measure => simp [intOf]; omega
    · obtain rfl : k = xs.length := by omega
      have hd : decide (x ∈ xs) = false := decide_eq_false (fun h => by
        obtain ⟨j, hj, he⟩ := List.getElem_of_mem h
        exact HN.out j hj (by rw [List.getD_eq_getElem?_getD, List.getElem?_eq_getElem hj]; exact he))
      have HD := Lib.hid hd
      clear hd HN
      go_wp2
      go_ret
      exact ⟨by rw [HD.out]; rfl, (by repeat (first | exact Below.refl _ _ | assumption | refine Below.drew ?_ | refine below_drewN ?_ _ | refine Below.alloc ?_ (by first | omega | (simp; done) | (simp; omega)) _ | refine Below.setCell ?_ (by first | omega | (simp; done) | (simp; omega)) _ | refine Below.trans ?_ (Below.mono (by assumption) (by first | omega | (simp; done) | (simp; omega)))))⟩

set_option maxHeartbeats 1000000 in
theorem qInts_same (a a' : Option Addr) (cap cap' : Nat) (xs : List Int) (hl : xs.length ≤ 1048576) {w : World} (ha : IntsAt w a xs) (ha' : IntsAt w a' xs) :
    Calls Try.prog 43 #[.slice a xs.length cap, .slice a' xs.length cap'] w fun e w' => e = .returned (.bool true) ∧ Below w.heap.size w w' := by
  go_enter Try.func43, Try.ntmps43
  go_wp2
  go_loopw [13] (fun i wr => ∃ k : Nat, k ≤ xs.length ∧ i = .int .i64 k ∧ Below w.heap.size w wr) (fun i _ => xs.length - (intOf i).toNat)
  case atStart => exact ⟨0, Nat.zero_le _, rfl, Below.refl _ _⟩
  case round =>
    obtain ⟨k, hk, rfl, hbr⟩ := hrel
    have hsr := hbr.size
    by_cases hlt : k < xs.length
    · obtain ⟨b, off, rfl, c0⟩ := (ha.below hbr) k hlt
      obtain ⟨b', off', rfl, d0⟩ := (ha'.below hbr) k hlt
      obtain ⟨n, hn⟩ : ∃ n : Int, n = xs.getD k 0 := ⟨_, rfl⟩
      rw [← hn] at c0 d0
      clear hn
      have i0 : (0 : Int) ≤ (k : Int) := by omega
      have i1 : (k : Int) < (xs.length : Int) := by omega
      go_wp2
      go_quiet (fail)
      go_wp2
      go_roundw
      case rel => exact ⟨k + 1, by omega, by go_num, (by repeat (first | exact Below.refl _ _ | assumption | refine Below.drew ?_ | refine below_drewN ?_ _ | refine Below.alloc ?_ (by first | omega | (simp; done) | (simp; omega)) _ | refine Below.setCell ?_ (by first | omega | (simp; done) | (simp; omega)) _ | refine Below.trans ?_ (Below.mono (by assumption) (by first | omega | (simp; done) | (simp; omega)))))⟩
      case measure => simp [intOf]; omega
    · obtain rfl : k = xs.length := by omega
      go_wp2
      go_ret
      exact ⟨rfl, (by repeat (first | exact Below.refl _ _ | assumption | refine Below.drew ?_ | refine below_drewN ?_ _ | refine Below.alloc ?_ (by first | omega | (simp; done) | (simp; omega)) _ | refine Below.setCell ?_ (by first | omega | (simp; done) | (simp; omega)) _ | refine Below.trans ?_ (Below.mono (by assumption) (by first | omega | (simp; done) | (simp; omega)))))⟩

end Go.Proofs.Ytjojjmmdgldcbaa
