/- The least gap of a list of spots, both sides. Conditions: those written in each theorem. -/
import Derived.Test.YtjdpbjpeohdoiaaArRoot
import Derived.Test.YtjdpbjpeohdoiaaStL
import Derived.Test.YtjdpbjpeohdoiaaOwn
import Derived.Deep.RegionHeld3
import Derived.Deep.DrawnRows
import Derived.IntWalk
import Derived.Laws.AppendOwn
import Derived.Deep.AppendLies
import Derived.StillTailTactics
import Derived.IntWalk
namespace Go.Proofs.Ytjdpbjpeohdoiaa
open Go.RowKit


attribute [local go_sem ↓] Go.wp_at_zero Go.wp_at_succ

theorem minF : ∀ a b : Int, (if b < a then b else a) = lo2 a b := fun a b => by unfold lo2; split <;> split <;> omega
/-- The square of two spots of a list. -/
def sqp (l : List (Int × Int)) (i k : Nat) : Int := sqr (sx l i) (sy l i) (sx l k) (sy l k)
/-- The least square of the first neighbours. -/
def gapL (l : List (Int × Int)) : Nat → Int
  | 0 => sqp l 0 1
  | k + 1 => lo2 (gapL l k) (sqp l (k + 1) (k + 2))
theorem lo2_self (a : Int) : lo2 a a = a := by unfold lo2; split <;> rfl
theorem gapL_step (l : List (Int × Int)) (m : Nat) : lo2 (gapL l (m - 1)) (sqp l m (m + 1)) = gapL l m := by
  cases m with
  | zero => exact lo2_self _
  | succ k => rfl
def gapK (l : List (Int × Int)) : Bool := okList l && decide (2 ≤ l.length)

set_option maxHeartbeats 1000000 in
theorem specGap_no (a : Option Addr) (cap : Nat) (l : List (Int × Int)) (hl : l.length ≤ 1048576) {w : World} (ha : PairsAt w a l) (hv : gapK l = false) :
    Calls Try.prog 35 #[.slice a l.length cap] w fun e w' => e = .returned (.tuple #[.int .i64 0, .bool false]) ∧ Below w.heap.size w w' := by
  have HS := Lib.hid (fun (W : World) (hb : Below w.heap.size w W) => stList_any a cap l hl (ha.below hb))
  obtain ⟨n, hn⟩ : ∃ n, n = l.length := ⟨_, rfl⟩
  have h9 : (n : Int) < 2 ∨ ¬ (n : Int) < 2 := by omega
  cases h1 : okList l
  all_goals
    have HV := Lib.hid h1
    rcases h9 with h9 | h9
  all_goals first | (exfalso; unfold gapK at hv; rw [h1, decide_eq_true (by omega)] at hv; cases hv; done) | clear hv
  all_goals
    rw [← hn] at HS ⊢
    clear h1 hn
    go_enter Try.func35, Try.ntmps35
    go_wp2_with (first | (go_at_call 59; (refine (HS.out _ (by repeat (first | exact Below.refl _ _ | assumption | refine Below.drew ?_ | refine below_drewN ?_ _ | refine Below.alloc ?_ (by first | omega | (simp; done) | (simp; omega)) _ | refine Below.setCell ?_ (by first | omega | (simp; done) | (simp; omega)) _ | refine Below.trans ?_ (Below.mono (by assumption) (by first | omega | (simp; done) | (simp; omega)))))).mono ?_; rw [HV.out]; rintro e w1 ⟨rfl, hb1⟩; have hs1 := hb1.size)))
    go_ret2
    exact ⟨rfl, (by repeat (first | exact Below.refl _ _ | assumption | refine Below.drew ?_ | refine below_drewN ?_ _ | refine Below.alloc ?_ (by first | omega | (simp; done) | (simp; omega)) _ | refine Below.setCell ?_ (by first | omega | (simp; done) | (simp; omega)) _ | refine Below.trans ?_ (Below.mono (by assumption) (by first | omega | (simp; done) | (simp; omega)))))⟩

set_option maxHeartbeats 1000000 in
theorem gap_no (a : Option Addr) (cap : Nat) (l : List (Int × Int)) (hl : l.length ≤ 1048576) {w : World} (ha : PairsAt w a l) (hv : gapK l = false) :
    Calls Try.prog 37 #[.slice a l.length cap] w fun e w' => e = .returned (.tuple #[.int .i64 0, .bool false]) ∧ Below w.heap.size w w' := by
  have HS := Lib.hid (fun (W : World) (hb : Below w.heap.size w W) => areSpots_any a cap l hl (ha.below hb))
  obtain ⟨n, hn⟩ : ∃ n, n = l.length := ⟨_, rfl⟩
  have h9 : (n : Int) < 2 ∨ ¬ (n : Int) < 2 := by omega
  cases h1 : okList l
  all_goals
    have HV := Lib.hid h1
    rcases h9 with h9 | h9
  all_goals first | (exfalso; unfold gapK at hv; rw [h1, decide_eq_true (by omega)] at hv; cases hv; done) | clear hv
  all_goals
    rw [← hn] at HS ⊢
    clear h1 hn
    go_enter Try.func37, Try.ntmps37
    go_wp2_with (first | (go_at_call 61; (refine (HS.out _ (by repeat (first | exact Below.refl _ _ | assumption | refine Below.drew ?_ | refine below_drewN ?_ _ | refine Below.alloc ?_ (by first | omega | (simp; done) | (simp; omega)) _ | refine Below.setCell ?_ (by first | omega | (simp; done) | (simp; omega)) _ | refine Below.trans ?_ (Below.mono (by assumption) (by first | omega | (simp; done) | (simp; omega)))))).mono ?_; rw [HV.out]; rintro e w1 ⟨rfl, hb1⟩; have hs1 := hb1.size)))
    go_ret2
    exact ⟨rfl, (by repeat (first | exact Below.refl _ _ | assumption | refine Below.drew ?_ | refine below_drewN ?_ _ | refine Below.alloc ?_ (by first | omega | (simp; done) | (simp; omega)) _ | refine Below.setCell ?_ (by first | omega | (simp; done) | (simp; omega)) _ | refine Below.trans ?_ (Below.mono (by assumption) (by first | omega | (simp; done) | (simp; omega)))))⟩

set_option maxHeartbeats 4000000 in
theorem specGap_yes (b off cap : Nat) (l : List (Int × Int)) (hv : gapK l = true) (hc : l.length ≤ cap) {w : World} (ha : PairsAt w (some ⟨b, off, none⟩) l) (v0 : Int) (hv0 : v0 = gapL l (l.length - 2)) :
    Calls Try.prog 35 #[.slice (some ⟨b, off, none⟩) l.length cap] w fun e w' => e = .returned (.tuple #[.int .i64 v0, .bool true]) ∧ Below w.heap.size w w' := by
  unfold gapK at hv
  rw [Bool.and_eq_true, decide_eq_true_eq] at hv
  obtain ⟨hok, h2⟩ := hv
  obtain ⟨p1, p2⟩ := okList_parts hok
  have hl : l.length ≤ 1048576 := by omega
  have HS := Lib.hid (fun (W : World) (hb : Below w.heap.size w W) => stList_any (some ⟨b, off, none⟩) cap l hl (ha.below hb))
  have HV := Lib.hid hok
  have HA := Lib.hid ha
  have HON := Lib.hid p1
  have HV0 := Lib.hid hv0
  have HSQA := Lib.hid (fun i j (hi : i < l.length) (hj : j < l.length) W => show Calls Try.prog 53 #[.agg #[.int .i64 (sx l i), .int .i64 (sy l i)], .agg #[.int .i64 (sx l j), .int .i64 (sy l j)]] W fun e w' => e = .returned (.int .i64 (sqp l i j)) ∧ Below W.heap.size W w' from stSquare_any _ _ _ _ (allOn_at HON.out i hi) (allOn_at HON.out j hj) W)
  clear ha hok p1 hv0
  go_enter Try.func35, Try.ntmps35
  go_wp2_with (first | (go_at_call 59; (refine (HS.out _ (by repeat (first | exact Below.refl _ _ | assumption | refine Below.drew ?_ | refine below_drewN ?_ _ | refine Below.alloc ?_ (by first | omega | (simp; done) | (simp; omega)) _ | refine Below.setCell ?_ (by first | omega | (simp; done) | (simp; omega)) _ | refine Below.trans ?_ (Below.mono (by assumption) (by first | omega | (simp; done) | (simp; omega)))))).mono ?_; rw [HV.out]; rintro e w1 ⟨rfl, hb1⟩; have hs1 := hb1.size)))
  have hbw : Below w.heap.size w w1 := (by repeat (first | exact Below.refl _ _ | assumption | refine Below.drew ?_ | refine below_drewN ?_ _ | refine Below.alloc ?_ (by first | omega | (simp; done) | (simp; omega)) _ | refine Below.setCell ?_ (by first | omega | (simp; done) | (simp; omega)) _ | refine Below.trans ?_ (Below.mono (by assumption) (by first | omega | (simp; done) | (simp; omega)))))
  obtain ⟨b1, off1, hbb, c0, c1⟩ := (HA.out.below hbw) (0) (by omega)
  obtain ⟨b2, off2, hbb2, c2, c3⟩ := (HA.out.below hbw) (1) (by omega)
  simp only [Option.some.injEq, Addr.mk.injEq] at hbb hbb2
  obtain ⟨hx1, hx2, _⟩ := hbb
  obtain ⟨hx3, hx4, _⟩ := hbb2
  subst hx1 hx2 hx3 hx4
  simp only [Nat.zero_mul, Nat.one_mul, Nat.add_zero] at c0 c1 c2 c3
  have HSQ := Lib.hid (fun W => HSQA.out 0 1 (by omega) (by omega) W)
  have i5 : (0 : Int) < (l.length : Int) := by omega
  have i6 : (1 : Int) < (l.length : Int) := by omega
  have i7 : 0 < l.length := by omega
  have i8 : 1 < l.length := by omega
  refine wp_region_still_tail 6 (by kernel_rfl) (by kernel_rfl) ?_
  simp only [List.take_succ_cons, List.take_zero, List.drop_succ_cons, List.drop_zero]
  change wpStill _ _ (World.drew _) _ _ _
  repeat (first | still_step)
  refine wpStill_nil ?_
  change wpList _ _ _ _ _ (World.drew _)
  go_wp2_with (go_at_call 53; ((with_reducible refine (HSQ.out _).mono ?_); rintro e w3 ⟨rfl, hb3⟩; have hs3 := hb3.size; (try simp at hs3)))
  have hbw3 : Below w.heap.size w w3 := (by repeat (first | exact Below.refl _ _ | assumption | refine Below.drew ?_ | refine below_drewN ?_ _ | refine Below.alloc ?_ (by first | omega | (simp; done) | (simp; omega)) _ | refine Below.setCell ?_ (by first | omega | (simp; done) | (simp; omega)) _ | refine Below.trans ?_ (Below.mono (by assumption) (by first | omega | (simp; done) | (simp; omega)))))
  clear c0 c1 c2 c3 hb3 hs3 hb1 hs1 hbw HSQ i5 i6 i7 i8
  go_loopw [4, 5] (fun ls i wr => ∃ (m : Nat), m + 2 ≤ l.length ∧ i = .int .i64 ((m : Int) + 2) ∧ ls = .int .i64 (gapL l m) ∧ Below w.heap.size w wr) (fun _ i _ => l.length - (intOf i).toNat)
  case atStart => exact ⟨0, h2, rfl, rfl, hbw3⟩
  case round =>
    clear hbw3
    obtain ⟨m, hm, rfl, rfl, hbr⟩ := hrel
    have hsr := hbr.size
    by_cases hlt : m + 2 < l.length
    · obtain ⟨b1, off1, hbb, c0, c1⟩ := (HA.out.below hbr) (m + 1) (by omega)
      obtain ⟨b2, off2, hbb2, c2, c3⟩ := (HA.out.below hbr) (m + 2) hlt
      simp only [Option.some.injEq, Addr.mk.injEq] at hbb hbb2
      obtain ⟨hx1, hx2, _⟩ := hbb
      obtain ⟨hx3, hx4, _⟩ := hbb2
      subst hx1 hx2 hx3 hx4
      have hbl : b < wr.heap.size := World.block_lt_of_cell? _ _ c0
      have HSQ := Lib.hid (fun W => HSQA.out (m + 1) (m + 2) (by omega) hlt W)
      have HG := Lib.hid (show lo2 (gapL l m) (sqp l (m + 1) (m + 2)) = gapL l (m + 1) from rfl)
      obtain ⟨G, hG⟩ : ∃ G, G = gapL l m := ⟨_, rfl⟩
      obtain ⟨Q, hQ⟩ : ∃ Q, Q = sqp l (m + 1) (m + 2) := ⟨_, rfl⟩
      rw [← hG, ← hQ] at HG
      rw [← hQ] at HSQ
      try rw [← hG]
      clear hG hQ
      have v1 : IntKind.i64.wrap ((m : Int) + 2 - 1) = (m : Int) + 1 := by rw [show (m : Int) + 2 - 1 = (m : Int) + 1 by omega]; exact IntWalk.i64_in _ (by omega)
      have v2 : IntKind.i64.wrap ((m : Int) + 2 + 1) = (m : Int) + 3 := by rw [show (m : Int) + 2 + 1 = (m : Int) + 3 by omega]; exact IntWalk.i64_in _ (by omega)
      have e1 : ((m : Int) + 1).toNat = m + 1 := by omega
      have e2 : ((m : Int) + 2).toNat = m + 2 := by omega
      have i0 : (0 : Int) ≤ (m : Int) + 1 := by omega
      have i1 : (m : Int) + 1 < (l.length : Int) := by omega
      have i2 : (0 : Int) ≤ (m : Int) + 2 := by omega
      have i3 : (m : Int) + 2 < (l.length : Int) := by omega
      go_wp2_with fail
      go_region_held3 (fun w' => w'.cell? ⟨b, off + (m + 1) * 2, none⟩ = some (.int .i64 (sx l (m + 1))) ∧ w'.cell? ⟨b, off + (m + 1) * 2 + 1, none⟩ = some (.int .i64 (sy l (m + 1))) ∧ w'.cell? ⟨b, off + (m + 2) * 2, none⟩ = some (.int .i64 (sx l (m + 2))) ∧ w'.cell? ⟨b, off + (m + 2) * 2 + 1, none⟩ = some (.int .i64 (sy l (m + 2)))) (refine ⟨?_, ?_, ?_, ?_⟩ <;> first | (go_keep; done) | (simp [*, World.cell?_alloc_past, World.cell?_setCell_far]; done) | (simp [*, World.cell?_alloc_past, World.cell?_alloc_at, World.cell?_setCell_far]; done) | (go_simp; done))
        (first | (go_at_call 53; ((with_reducible refine (HSQ.out _).mono ?_); rintro e w3 ⟨rfl, hb3⟩; have hs3 := hb3.size; (try simp at hs3); have q0 : w3.cell? ⟨b, off + (m + 1) * 2, none⟩ = _ := hb3.cell (p := ⟨b, off + (m + 1) * 2, none⟩) (by first | omega | (simp; done) | (simp; omega)); have q1 : w3.cell? ⟨b, off + (m + 1) * 2 + 1, none⟩ = _ := hb3.cell (p := ⟨b, off + (m + 1) * 2 + 1, none⟩) (by first | omega | (simp; done) | (simp; omega)); have q2 : w3.cell? ⟨b, off + (m + 2) * 2, none⟩ = _ := hb3.cell (p := ⟨b, off + (m + 2) * 2, none⟩) (by first | omega | (simp; done) | (simp; omega)); have q3 : w3.cell? ⟨b, off + (m + 2) * 2 + 1, none⟩ = _ := hb3.cell (p := ⟨b, off + (m + 2) * 2 + 1, none⟩) (by first | omega | (simp; done) | (simp; omega)))) | (go_at_call 60; ((with_reducible refine (l1Least_any _ _ _).mono ?_); rintro e w' ⟨rfl, rfl⟩)))
      all_goals
        go_wp2_with fail
        go_roundw
        case rel => exact ⟨m + 1, by omega, by go_num, by rw [HG.out], (by repeat (first | exact Below.refl _ _ | assumption | refine Below.drew ?_ | refine below_drewN ?_ _ | refine Below.alloc ?_ (by first | omega | (simp; done) | (simp; omega)) _ | refine Below.setCell ?_ (by first | omega | (simp; done) | (simp; omega)) _ | refine Below.trans ?_ (Below.mono (by assumption) (by first | omega | (simp; done) | (simp; omega)))))⟩
        case measure => simp [intOf]; omega
    · have hm2 : m = l.length - 2 := by omega
      have i3 : ¬ (m : Int) + 2 < (l.length : Int) := by omega
      have HE := Lib.hid (show v0 = gapL l m by rw [HV0.out, hm2])
      clear hm2
      go_wp2
      go_ret2
      exact ⟨by rw [HE.out]; rfl, (by repeat (first | exact Below.refl _ _ | assumption | refine Below.drew ?_ | refine below_drewN ?_ _ | refine Below.alloc ?_ (by first | omega | (simp; done) | (simp; omega)) _ | refine Below.setCell ?_ (by first | omega | (simp; done) | (simp; omega)) _ | refine Below.trans ?_ (Below.mono (by assumption) (by first | omega | (simp; done) | (simp; omega)))))⟩

set_option maxHeartbeats 4000000 in
theorem gap_yes (b off cap : Nat) (l : List (Int × Int)) (hv : gapK l = true) (hc : l.length ≤ cap) {w : World} (ha : PairsAt w (some ⟨b, off, none⟩) l) (v0 : Int) (hv0 : v0 = gapL l (l.length - 2)) :
    Calls Try.prog 37 #[.slice (some ⟨b, off, none⟩) l.length cap] w fun e w' => e = .returned (.tuple #[.int .i64 v0, .bool true]) ∧ Below w.heap.size w w' := by
  unfold gapK at hv
  rw [Bool.and_eq_true, decide_eq_true_eq] at hv
  obtain ⟨hok, h2⟩ := hv
  obtain ⟨p1, p2⟩ := okList_parts hok
  have hl : l.length ≤ 1048576 := by omega
  have HS := Lib.hid (fun (W : World) (hb : Below w.heap.size w W) => areSpots_any (some ⟨b, off, none⟩) cap l hl (ha.below hb))
  have HV := Lib.hid hok
  have HA := Lib.hid ha
  have HON := Lib.hid p1
  have HV0 := Lib.hid hv0
  have HSQA := Lib.hid (fun i j (hi : i < l.length) (hj : j < l.length) W => show Calls Try.prog 57 #[.agg #[.int .i64 (sx l i), .int .i64 (sy l i)], .agg #[.int .i64 (sx l j), .int .i64 (sy l j)]] W fun e w' => e = .returned (.int .i64 (sqp l i j)) ∧ Below W.heap.size W w' from squareBetween_any _ _ _ _ (allOn_at HON.out i hi) (allOn_at HON.out j hj) W)
  clear ha hok p1 hv0
  go_enter Try.func37, Try.ntmps37
  go_wp2_with (first | (go_at_call 61; (refine (HS.out _ (by repeat (first | exact Below.refl _ _ | assumption | refine Below.drew ?_ | refine below_drewN ?_ _ | refine Below.alloc ?_ (by first | omega | (simp; done) | (simp; omega)) _ | refine Below.setCell ?_ (by first | omega | (simp; done) | (simp; omega)) _ | refine Below.trans ?_ (Below.mono (by assumption) (by first | omega | (simp; done) | (simp; omega)))))).mono ?_; rw [HV.out]; rintro e w1 ⟨rfl, hb1⟩; have hs1 := hb1.size)))
  have hbw : Below w.heap.size w w1 := (by repeat (first | exact Below.refl _ _ | assumption | refine Below.drew ?_ | refine below_drewN ?_ _ | refine Below.alloc ?_ (by first | omega | (simp; done) | (simp; omega)) _ | refine Below.setCell ?_ (by first | omega | (simp; done) | (simp; omega)) _ | refine Below.trans ?_ (Below.mono (by assumption) (by first | omega | (simp; done) | (simp; omega)))))
  obtain ⟨b1, off1, hbb, c0, c1⟩ := (HA.out.below hbw) (0) (by omega)
  obtain ⟨b2, off2, hbb2, c2, c3⟩ := (HA.out.below hbw) (1) (by omega)
  simp only [Option.some.injEq, Addr.mk.injEq] at hbb hbb2
  obtain ⟨hx1, hx2, _⟩ := hbb
  obtain ⟨hx3, hx4, _⟩ := hbb2
  subst hx1 hx2 hx3 hx4
  simp only [Nat.zero_mul, Nat.one_mul, Nat.add_zero] at c0 c1 c2 c3
  have HSQ := Lib.hid (fun W => HSQA.out 0 1 (by omega) (by omega) W)
  have i5 : (0 : Int) < (l.length : Int) := by omega
  have i6 : (1 : Int) < (l.length : Int) := by omega
  have i7 : 0 < l.length := by omega
  have i8 : 1 < l.length := by omega
  refine wp_region_still_tail 6 (by kernel_rfl) (by kernel_rfl) ?_
  simp only [List.take_succ_cons, List.take_zero, List.drop_succ_cons, List.drop_zero]
  change wpStill _ _ (World.drew _) _ _ _
  repeat (first | still_step)
  refine wpStill_nil ?_
  change wpList _ _ _ _ _ (World.drew _)
  go_wp2_with (go_at_call 57; ((with_reducible refine (HSQ.out _).mono ?_); rintro e w3 ⟨rfl, hb3⟩; have hs3 := hb3.size; (try simp at hs3)))
  have hbw3 : Below w.heap.size w w3 := (by repeat (first | exact Below.refl _ _ | assumption | refine Below.drew ?_ | refine below_drewN ?_ _ | refine Below.alloc ?_ (by first | omega | (simp; done) | (simp; omega)) _ | refine Below.setCell ?_ (by first | omega | (simp; done) | (simp; omega)) _ | refine Below.trans ?_ (Below.mono (by assumption) (by first | omega | (simp; done) | (simp; omega)))))
  clear c0 c1 c2 c3 hb3 hs3 hb1 hs1 hbw HSQ i5 i6 i7 i8
  have hc1 : (1 : Int) ≤ (l.length : Int) := by omega
  have hc2 : 1 ≤ l.length := by omega
  have hc3 : (l.length : Int) ≤ (cap : Int) := by omega
  go_loopw [4, 25] (fun ls i wr => ∃ (m : Nat), m + 1 ≤ l.length ∧ i = .int .i64 (m : Int) ∧ ls = .int .i64 (gapL l (m - 1)) ∧ Below w.heap.size w wr) (fun _ i _ => l.length - (intOf i).toNat)
  case atStart => exact ⟨0, by omega, rfl, rfl, hbw3⟩
  case round =>
    clear hbw3
    obtain ⟨m, hm, rfl, rfl, hbr⟩ := hrel
    have hsr := hbr.size
    by_cases hlt : m + 1 < l.length
    · obtain ⟨b1, off1, hbb, c0, c1⟩ := (HA.out.below hbr) (m) (by omega)
      obtain ⟨b2, off2, hbb2, c2, c3⟩ := (HA.out.below hbr) (m + 1) hlt
      simp only [Option.some.injEq, Addr.mk.injEq] at hbb hbb2
      obtain ⟨hx1, hx2, _⟩ := hbb
      obtain ⟨hx3, hx4, _⟩ := hbb2
      subst hx1 hx2 hx3 hx4
      rw [show off + (m + 1) * 2 = off + 2 + m * 2 by omega] at c2
      rw [show off + (m + 1) * 2 + 1 = off + 2 + m * 2 + 1 by omega] at c3
      have HSQ := Lib.hid (fun W => HSQA.out m (m + 1) (by omega) hlt W)
      have HG := Lib.hid (gapL_step l m)
      obtain ⟨G, hG⟩ : ∃ G, G = gapL l (m - 1) := ⟨_, rfl⟩
      obtain ⟨Q, hQ⟩ : ∃ Q, Q = sqp l m (m + 1) := ⟨_, rfl⟩
      rw [← hG, ← hQ] at HG
      rw [← hQ] at HSQ
      try rw [← hG]
      clear hG hQ
      have i0 : (0 : Int) ≤ (m : Int) := by omega
      have i1 : (m : Int) < (l.length : Int) := by omega
      have i2 : (m : Int) < (l.length : Int) - 1 := by omega
      have i3 : m < l.length - 1 := by omega
      have v8 := minF
      have hbl : b < wr.heap.size := World.block_lt_of_cell? _ _ c0
      have n1 : ¬ b = wr.heap.size := by omega
      have n2 : ¬ wr.heap.size = b := by omega
      go_wp2_with fail
      go_region_held3 (fun w' => w'.cell? ⟨b, off + m * 2, none⟩ = some (.int .i64 (sx l m)) ∧ w'.cell? ⟨b, off + m * 2 + 1, none⟩ = some (.int .i64 (sy l m)) ∧ w'.cell? ⟨wr.heap.size, 0, none⟩ = some (.int .i64 (sx l (m + 1))) ∧ w'.cell? ⟨wr.heap.size, 1, none⟩ = some (.int .i64 (sy l (m + 1)))) (refine ⟨?_, ?_, ?_, ?_⟩ <;> first | (go_keep; done) | (simp [*, World.cell?_alloc_past, World.cell?_setCell_far]; done) | (simp [*, World.cell?_alloc_past, World.cell?_alloc_at, World.cell?_setCell_far]; done) | (go_simp; done))
        (first | (go_at_call 57; ((with_reducible refine (HSQ.out _).mono ?_); rintro e w3 ⟨rfl, hb3⟩; have hs3 := hb3.size; (try simp at hs3); have q0 : w3.cell? ⟨b, off + m * 2, none⟩ = _ := hb3.cell (p := ⟨b, off + m * 2, none⟩) (by first | omega | (simp; done) | (simp; omega)); have q1 : w3.cell? ⟨b, off + m * 2 + 1, none⟩ = _ := hb3.cell (p := ⟨b, off + m * 2 + 1, none⟩) (by first | omega | (simp; done) | (simp; omega)); have q2 : w3.cell? ⟨wr.heap.size, 0, none⟩ = _ := hb3.cell (p := ⟨wr.heap.size, 0, none⟩) (by first | omega | (simp; done) | (simp; omega)); have q3 : w3.cell? ⟨wr.heap.size, 1, none⟩ = _ := hb3.cell (p := ⟨wr.heap.size, 1, none⟩) (by first | omega | (simp; done) | (simp; omega)))))
      all_goals
        go_wp2_with fail
        go_roundw
        case rel => exact ⟨m + 1, by omega, by go_num, by rw [HG.out]; rfl, (by repeat (first | exact Below.refl _ _ | assumption | refine Below.drew ?_ | refine below_drewN ?_ _ | refine Below.alloc ?_ (by first | omega | (simp; done) | (simp; omega)) _ | refine Below.setCell ?_ (by first | omega | (simp; done) | (simp; omega)) _ | refine Below.trans ?_ (Below.mono (by assumption) (by first | omega | (simp; done) | (simp; omega)))))⟩
        case measure => simp [intOf]; omega
    · have hm2 : m - 1 = l.length - 2 := by omega
      have i3 : ¬ (m : Int) < (l.length : Int) - 1 := by omega
      have HE := Lib.hid (show v0 = gapL l (m - 1) by rw [HV0.out, hm2])
      clear hm2
      go_wp2
      go_ret2
      exact ⟨by rw [HE.out]; rfl, (by repeat (first | exact Below.refl _ _ | assumption | refine Below.drew ?_ | refine below_drewN ?_ _ | refine Below.alloc ?_ (by first | omega | (simp; done) | (simp; omega)) _ | refine Below.setCell ?_ (by first | omega | (simp; done) | (simp; omega)) _ | refine Below.trans ?_ (Below.mono (by assumption) (by first | omega | (simp; done) | (simp; omega)))))⟩

theorem specGap_any (a : Option Addr) (cap : Nat) (l : List (Int × Int)) (hl : l.length ≤ 1048576) {w : World} (ha : PairsAt w a l) (hc : l.length ≤ cap) :
    Calls Try.prog 35 #[.slice a l.length cap] w fun e w' => e = .returned (.tuple #[.int .i64 (guardI (gapK l) (gapL l (l.length - 2))), .bool (gapK l)]) ∧ Below w.heap.size w w' := by
  cases hv : gapK l
  · exact specGap_no a cap l hl ha hv
  · have h2 : 2 ≤ l.length := by
      unfold gapK at hv
      rw [Bool.and_eq_true, decide_eq_true_eq] at hv
      exact hv.2
    obtain ⟨b, off, rfl⟩ := ha.some_of (by omega)
    exact specGap_yes b off cap l hv hc ha _ rfl

theorem gap_any (a : Option Addr) (cap : Nat) (l : List (Int × Int)) (hl : l.length ≤ 1048576) {w : World} (ha : PairsAt w a l) (hc : l.length ≤ cap) :
    Calls Try.prog 37 #[.slice a l.length cap] w fun e w' => e = .returned (.tuple #[.int .i64 (guardI (gapK l) (gapL l (l.length - 2))), .bool (gapK l)]) ∧ Below w.heap.size w w' := by
  cases hv : gapK l
  · exact gap_no a cap l hl ha hv
  · have h2 : 2 ≤ l.length := by
      unfold gapK at hv
      rw [Bool.and_eq_true, decide_eq_true_eq] at hv
      exact hv.2
    obtain ⟨b, off, rfl⟩ := ha.some_of (by omega)
    exact gap_yes b off cap l hv hc ha _ rfl

end Go.Proofs.Ytjdpbjpeohdoiaa
