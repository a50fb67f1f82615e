/- Music, as the other side reads it: what each call does. No conditions but those written in each theorem. -/
import Derived.Test.YtbpphcdhbbhjpaaMus
import Derived.Deep.RegionHeld3
import Derived.Deep.DrawnRows
import Derived.IntWalk
namespace Go.Proofs.Ytbpphcdhbbhjpaa
open Go.RowKit


attribute [local go_sem ↓] Go.wp_at_zero Go.wp_at_succ

set_option maxHeartbeats 400000 in
theorem muMeasure_any (x y : Int) (w : World) :
    Calls Try.prog 67 #[.agg #[.int .i64 x, .int .i64 y]] w fun e w' => e = .returned (.bool (measOk x y)) ∧ Below w.heap.size w w' := by
  have hm : measOk x y = (inB 1 x 12 && inB 40 y 220) := rfl
  have Hm := Lib.hid hm
  clear hm
  cases h1 : inB 1 x 12 <;> cases h2 : inB 40 y 220
  all_goals
    go_enter Try.func67, Try.ntmps67
    go_wp2_with (first | (go_at_call 53; (refine (l1In_any _ _ _ _).mono ?_; rintro e w' ⟨rfl, rfl⟩)))
    go_ret
    exact ⟨by rw [Hm.out, h1, h2]; rfl, (by repeat (first | exact Below.refl _ _ | assumption | refine Below.drew ?_ | refine below_drewN ?_ _ | refine Below.alloc ?_ (by first | omega | (simp; done) | (simp; omega)) _ | refine Below.setCell ?_ (by first | omega | (simp; done) | (simp; omega)) _ | refine Below.trans ?_ (Below.mono (by assumption) (by first | omega | (simp; done) | (simp; omega)))))⟩

set_option maxHeartbeats 1000000 in
theorem muGood_any (a : Option Addr) (cap : Nat) (l : List (Int × Int)) (hl : l.length ≤ 1048576) {w : World} (ha : PairsAt w a l) :
    Calls Try.prog 41 #[.slice a l.length cap] w fun e w' => e = .returned (.bool (musOk l)) ∧ Below w.heap.size w w' := by
  have hok : musOk l = (allP measOk l && inB 1 (l.length : Int) 40) := rfl
  have Hok := Lib.hid hok
  clear hok
  go_enter Try.func41, Try.ntmps41
  go_wp2
  go_loopw [7] (fun i wr => ∃ k : Nat, k ≤ l.length ∧ i = .int .i64 k ∧ (∀ j, j < k → measOk (sx l j) (sy l j) = true) ∧ Below w.heap.size w wr) (fun i _ => l.length - (intOf i).toNat)
  case atStart => exact ⟨0, Nat.zero_le _, rfl, fun j h => absurd h (Nat.not_lt_zero j), Below.refl _ _⟩
  case round =>
    obtain ⟨k, hk, rfl, hon, hbr⟩ := hrel
    have hsr := hbr.size
    have Hon := Lib.hid hon
    clear hon
    by_cases hlt : k < l.length
    · obtain ⟨b, off, rfl, c0, c1⟩ := (ha.below hbr) k hlt
      cases hg : measOk (sx l k) (sy l k)
      · have e0 := allP_false hlt hg
        have E0 := Lib.hid e0
        clear e0
        go_wp2_with (go_at_call 67; (refine (muMeasure_any _ _ _).mono ?_; rintro e w1 ⟨rfl, hb1⟩; have hs1 := hb1.size; (try simp at hs1); (first | have hk4 := call_facts hl3 hb1 (by simp) | skip); (first | have hk3 := call_facts hl2 hb1 (by simp) | skip); (first | have hk2 := call_facts hl1 hb1 (by simp) | skip); have hk1 := call_facts (fun b h => h) hb1 (Nat.le_refl _); (first | have hl4 := hk4.1 | skip); (first | have hl3 := hk3.1 | skip); (first | have hl2 := hk2.1 | skip); have hl1 := hk1.1))
        go_ret
        exact ⟨by rw [Hok.out, E0.out]; rfl, (by repeat (first | exact Below.refl _ _ | assumption | refine Below.drew ?_ | refine below_drewN ?_ _ | refine Below.alloc ?_ (by first | omega | (simp; done) | (simp; omega)) _ | refine Below.setCell ?_ (by first | omega | (simp; done) | (simp; omega)) _ | refine Below.trans ?_ (Below.mono (by assumption) (by first | omega | (simp; done) | (simp; omega)))))⟩
      · have hon2 := ext_lt (p := fun j => measOk (sx l j) (sy l j) = true) Hon.out hg
        have Hon2 := Lib.hid hon2
        clear hon2
        go_wp2_with (go_at_call 67; (refine (muMeasure_any _ _ _).mono ?_; rintro e w1 ⟨rfl, hb1⟩; have hs1 := hb1.size; (try simp at hs1); (first | have hk4 := call_facts hl3 hb1 (by simp) | skip); (first | have hk3 := call_facts hl2 hb1 (by simp) | skip); (first | have hk2 := call_facts hl1 hb1 (by simp) | skip); have hk1 := call_facts (fun b h => h) hb1 (Nat.le_refl _); (first | have hl4 := hk4.1 | skip); (first | have hl3 := hk3.1 | skip); (first | have hl2 := hk2.1 | skip); have hl1 := hk1.1))
        go_roundw
        case rel => exact ⟨k + 1, by omega, by go_num, Hon2.out, (by repeat (first | exact Below.refl _ _ | assumption | refine Below.drew ?_ | refine below_drewN ?_ _ | refine Below.alloc ?_ (by first | omega | (simp; done) | (simp; omega)) _ | refine Below.setCell ?_ (by first | omega | (simp; done) | (simp; omega)) _ | refine Below.trans ?_ (Below.mono (by assumption) (by first | omega | (simp; done) | (simp; omega)))))⟩
        case measure => simp [intOf]; omega
    · have e0 := allP_true (g := measOk) (l := l) (fun j hj => Hon.out j (by omega))
      have E0 := Lib.hid e0
      clear e0
      go_wp2_with (go_at_call 53; (refine (l1In_any _ _ _ _).mono ?_; rintro e w' ⟨rfl, rfl⟩))
      go_ret
      exact ⟨by rw [Hok.out, E0.out]; rfl, (by repeat (first | exact Below.refl _ _ | assumption | refine Below.drew ?_ | refine below_drewN ?_ _ | refine Below.alloc ?_ (by first | omega | (simp; done) | (simp; omega)) _ | refine Below.setCell ?_ (by first | omega | (simp; done) | (simp; omega)) _ | refine Below.trans ?_ (Below.mono (by assumption) (by first | omega | (simp; done) | (simp; omega)))))⟩

set_option maxHeartbeats 1000000 in
theorem muCounts_any (a : Option Addr) (cap : Nat) (l : List (Int × Int)) (hm : musOk l = true) {w : World} (ha : PairsAt w a l) :
    Calls Try.prog 45 #[.slice a l.length cap] w fun e w' => e = .returned (.int .i64 (total l)) ∧ Below w.heap.size w w' := by
  obtain ⟨n1, n2⟩ := musOk_len hm
  have Hm := Lib.hid hm
  clear hm
  go_enter Try.func45, Try.ntmps45
  go_wp2
  go_loopw [3, 8] (fun s i wr => ∃ k : Nat, k ≤ l.length ∧ i = .int .i64 k ∧ s = .int .i64 (cn l k) ∧ Below w.heap.size w wr) (fun _ i _ => l.length - (intOf i).toNat)
  case atStart => exact ⟨0, Nat.zero_le _, rfl, rfl, Below.refl _ _⟩
  case round =>
    obtain ⟨k, hk, rfl, rfl, hbr⟩ := hrel
    have hsr := hbr.size
    by_cases hlt : k < l.length
    · obtain ⟨b, off, rfl, c0, c1⟩ := (ha.below hbr) k hlt
      obtain ⟨b1, b2⟩ := cn_bound Hm.out k hk
      obtain ⟨⟨b3, b4⟩, _⟩ := musOk_at Hm.out k hlt
      have hst : cn l (k + 1) = cn l k + sx l k := rfl
      have Hst := Lib.hid hst
      clear hst
      have v1 : IntKind.i64.wrap (cn l k + sx l k) = cn l k + sx l k := IntWalk.i64_in _ (by omega)
      go_wp2
      go_roundw
      case rel => exact ⟨k + 1, by omega, by go_num, by rw [Hst.out], (by repeat (first | exact Below.refl _ _ | assumption | refine Below.drew ?_ | refine below_drewN ?_ _ | refine Below.alloc ?_ (by first | omega | (simp; done) | (simp; omega)) _ | refine Below.setCell ?_ (by first | omega | (simp; done) | (simp; omega)) _ | refine Below.trans ?_ (Below.mono (by assumption) (by first | omega | (simp; done) | (simp; omega)))))⟩
      case measure => simp [intOf]; omega
    · obtain rfl : k = l.length := by omega
      go_wp2
      go_ret
      exact ⟨rfl, (by repeat (first | exact Below.refl _ _ | assumption | refine Below.drew ?_ | refine below_drewN ?_ _ | refine Below.alloc ?_ (by first | omega | (simp; done) | (simp; omega)) _ | refine Below.setCell ?_ (by first | omega | (simp; done) | (simp; omega)) _ | refine Below.trans ?_ (Below.mono (by assumption) (by first | omega | (simp; done) | (simp; omega)))))⟩

set_option maxHeartbeats 1000000 in
theorem muLasts_any (c t : Int) (h0 : 0 ≤ c) (h1 : c ≤ 1000000) (h2 : 1 ≤ t) (h3 : t ≤ 1000000) (w : World) :
    Calls Try.prog 61 #[.int .i64 c, .int .i64 t] w fun e w' => e = .returned (.int .i64 (lst c t)) ∧ w = w' := by
  have hd : 0 ≤ 60000 * c / t ∧ 60000 * c / t ≤ 60000 * c := ⟨Int.ediv_nonneg (by omega) (by omega), Int.ediv_le_self _ (by omega)⟩
  obtain ⟨d1, d2⟩ := hd
  have v1 : IntKind.i64.wrap (60000 * c) = 60000 * c := IntWalk.i64_in _ (by omega)
  have v2 : Int.tdiv (60000 * c) t = 60000 * c / t := Int.tdiv_eq_ediv_of_nonneg (by omega)
  have v3 : IntKind.i64.wrap (60000 * c / t) = 60000 * c / t := IntWalk.i64_in _ (by omega)
  have v4 : ¬ t = 0 := by omega
  have v5 : (t == 0) = false := by rw [beq_eq_false_iff_ne]; exact v4
  have hls : lst c t = 60000 * c / t := rfl
  have Hls := Lib.hid hls
  clear hls
  go_enter Try.func61, Try.ntmps61
  go_wp2
  go_ret
  exact ⟨by rw [Hls.out]; rfl, rfl⟩

end Go.Proofs.Ytbpphcdhbbhjpaa
