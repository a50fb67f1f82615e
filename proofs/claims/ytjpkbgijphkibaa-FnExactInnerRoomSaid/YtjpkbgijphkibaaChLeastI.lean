/- The least square of a chart, the program's side, and the room of a form, both sides. No conditions but those written in each theorem. -/
import Derived.Test.YtjpkbgijphkibaaChLeast
import Derived.Deep.RegionHeld3
import Derived.Deep.DrawnRows
import Derived.IntWalk
import Derived.Laws.AppendOwn
import Derived.Deep.AppendLies
import Derived.StillTailTactics
namespace Go.Proofs.Ytjpkbgijphkibaa
open Go.RowKit


attribute [local go_sem ↓] Go.wp_at_zero Go.wp_at_succ

theorem minF : ∀ a b : Int, (if b < a then b else a) = lo2 a b := fun a b => by unfold lo2; split <;> split <;> omega
/-- Some pair has this square. -/
def HasSq (l : List (Int × Int)) (v : Int) : Prop := ∃ i k, i < k ∧ k < l.length ∧ v = sqp l i k
/-- No pair of the first n spots has a less one. -/
def AllSq (l : List (Int × Int)) (v : Int) (n : Nat) : Prop := ∀ i k, i < k → k < n → v ≤ sqp l i k
theorem HasSq.bound {l : List (Int × Int)} (h : allOn l = true) {v : Int} (hs : HasSq l v) : 0 ≤ v ∧ v ≤ 2089984 := by
  obtain ⟨i, k, hik, hk, rfl⟩ := hs
  exact sqp_bound h (by omega) hk
theorem HasSq.lo {l : List (Int × Int)} {v : Int} (hs : HasSq l v) {i k : Nat} (hik : i < k) (hk : k < l.length) : HasSq l (lo2 v (sqp l i k)) := by
  unfold lo2
  split
  · exact hs
  · exact ⟨i, k, hik, hk, rfl⟩
theorem lo2_le (a b : Int) : lo2 a b ≤ a ∧ lo2 a b ≤ b := by unfold lo2; split <;> omega
/-- The room of a form. -/
def roomV (l : List (Int × Int)) : Int := guardI (chOk l) (hi2 0 (leastV l))
theorem room_one {l : List (Int × Int)} (h : l.length = 1) : roomV l = 0 := by
  unfold roomV
  rw [leastV_one h]
  cases chOk l <;> rfl
theorem room_more {l : List (Int × Int)} (h : chOk l = true) (h2 : 2 ≤ l.length) {v : Int} (hv : IsLeast l v) : roomV l = v := by
  have hl := leastV_is (chOk_parts h).1 h2
  have e := IsLeast.eq hl.1 hv
  have h0 := hl.2.1
  unfold roomV
  rw [h, ← e]
  show hi2 0 (leastV l) = leastV l
  unfold hi2
  rw [if_neg (by omega)]

set_option maxHeartbeats 1000000 in
theorem specRoom_no (a : Option Addr) (cap : Nat) (l : List (Int × Int)) (hl : l.length ≤ 1048576) (hc : l.length ≤ cap) {w : World} (ha : PairsAt w a l) (hv : chOk l = false) :
    Calls Try.prog 35 #[.slice a l.length cap] w fun e w' => e = .returned (.tuple #[.int .i64 0, .bool false]) ∧ Below w.heap.size w w' := by
  have HS := Lib.hid (fun (W : World) (hb : Below w.heap.size w W) => chGood_any a cap l hl hc (ha.below hb))
  have HV := Lib.hid hv
  clear hv
  go_enter Try.func35, Try.ntmps35
  go_wp2_with (first | (go_at_call 52; (refine (HS.out _ (by repeat (first | exact Below.refl _ _ | assumption | refine Below.drew ?_ | refine below_drewN ?_ _ | refine Below.alloc ?_ (by first | omega | (simp; done) | (simp; omega)) _ | refine Below.setCell ?_ (by first | omega | (simp; done) | (simp; omega)) _ | refine Below.trans ?_ (Below.mono (by assumption) (by first | omega | (simp; done) | (simp; omega)))))).mono ?_; rw [HV.out]; rintro e w1 ⟨rfl, hb1⟩; have hs1 := hb1.size)))
  go_ret2
  exact ⟨rfl, (by repeat (first | exact Below.refl _ _ | assumption | refine Below.drew ?_ | refine below_drewN ?_ _ | refine Below.alloc ?_ (by first | omega | (simp; done) | (simp; omega)) _ | refine Below.setCell ?_ (by first | omega | (simp; done) | (simp; omega)) _ | refine Below.trans ?_ (Below.mono (by assumption) (by first | omega | (simp; done) | (simp; omega)))))⟩
set_option maxHeartbeats 1000000 in
theorem specRoom_yes (a : Option Addr) (cap : Nat) (l : List (Int × Int)) (hl : l.length ≤ 1048576) (hc : l.length ≤ cap) {w : World} (ha : PairsAt w a l) (hv : chOk l = true) :
    Calls Try.prog 35 #[.slice a l.length cap] w fun e w' => e = .returned (.tuple #[.int .i64 (hi2 0 (leastV l)), .bool true]) ∧ Below w.heap.size w w' := by
  have HS := Lib.hid (fun (W : World) (hb : Below w.heap.size w W) => chGood_any a cap l hl hc (ha.below hb))
  have hle := fun (W : World) (hb : Below w.heap.size w W) => chLeast_any a cap l hl (chOk_parts hv).1 (ha.below hb)
  have e9 : (bestB l).n = leastV l := rfl
  simp only [e9] at hle
  have HLE := Lib.hid hle
  have HV := Lib.hid hv
  clear hv hle e9
  go_enter Try.func35, Try.ntmps35
  go_wp2_with (first | (go_at_call 52; (refine (HS.out _ (by repeat (first | exact Below.refl _ _ | assumption | refine Below.drew ?_ | refine below_drewN ?_ _ | refine Below.alloc ?_ (by first | omega | (simp; done) | (simp; omega)) _ | refine Below.setCell ?_ (by first | omega | (simp; done) | (simp; omega)) _ | refine Below.trans ?_ (Below.mono (by assumption) (by first | omega | (simp; done) | (simp; omega)))))).mono ?_; rw [HV.out]; rintro e w1 ⟨rfl, hb1⟩; have hs1 := hb1.size)) | (go_at_call 62; (refine (HLE.out _ (by repeat (first | exact Below.refl _ _ | assumption | refine Below.drew ?_ | refine below_drewN ?_ _ | refine Below.alloc ?_ (by first | omega | (simp; done) | (simp; omega)) _ | refine Below.setCell ?_ (by first | omega | (simp; done) | (simp; omega)) _ | refine Below.trans ?_ (Below.mono (by assumption) (by first | omega | (simp; done) | (simp; omega)))))).mono ?_; rintro e w2 ⟨rfl, hb2⟩; have hs2 := hb2.size)) | (go_at_call 40; ((with_reducible refine (l1Most_any _ _ _).mono ?_); rintro e w' ⟨rfl, rfl⟩)))
  go_ret2
  exact ⟨rfl, (by repeat (first | exact Below.refl _ _ | assumption | refine Below.drew ?_ | refine below_drewN ?_ _ | refine Below.alloc ?_ (by first | omega | (simp; done) | (simp; omega)) _ | refine Below.setCell ?_ (by first | omega | (simp; done) | (simp; omega)) _ | refine Below.trans ?_ (Below.mono (by assumption) (by first | omega | (simp; done) | (simp; omega)))))⟩
theorem specRoom_any (a : Option Addr) (cap : Nat) (l : List (Int × Int)) (hl : l.length ≤ 1048576) (hc : l.length ≤ cap) {w : World} (ha : PairsAt w a l) :
    Calls Try.prog 35 #[.slice a l.length cap] w fun e w' => e = .returned (.tuple #[.int .i64 (roomV l), .bool (chOk l)]) ∧ Below w.heap.size w w' := by
  cases hv : chOk l
  · have e : roomV l = 0 := by unfold roomV; rw [hv]; rfl
    rw [e]
    exact specRoom_no a cap l hl hc ha hv
  · have e : roomV l = hi2 0 (leastV l) := by unfold roomV; rw [hv]; rfl
    rw [e]
    exact specRoom_yes a cap l hl hc ha hv

set_option maxHeartbeats 1000000 in
theorem leastSq_no (a : Option Addr) (cap : Nat) (l : List (Int × Int)) (hl : l.length ≤ 1048576) {w : World} (ha : PairsAt w a l) (hv : chOk l = false) (h1 : l.length ≠ 1) :
    Calls Try.prog 63 #[.slice a l.length cap] w fun e w' => e = .returned (.tuple #[.int .i64 0, .bool false]) ∧ Below w.heap.size w w' := by
  have HS := Lib.hid (fun (W : World) (hb : Below w.heap.size w W) => isChart_any a cap l hl (ha.below hb))
  have HV := Lib.hid hv
  clear hv
  go_enter Try.func63, Try.ntmps63
  go_wp2_with (first | (go_at_call 54; (refine (HS.out _ (by repeat (first | exact Below.refl _ _ | assumption | refine Below.drew ?_ | refine below_drewN ?_ _ | refine Below.alloc ?_ (by first | omega | (simp; done) | (simp; omega)) _ | refine Below.setCell ?_ (by first | omega | (simp; done) | (simp; omega)) _ | refine Below.trans ?_ (Below.mono (by assumption) (by first | omega | (simp; done) | (simp; omega)))))).mono ?_; rw [HV.out]; rintro e w1 ⟨rfl, hb1⟩; have hs1 := hb1.size)))
  go_ret2
  exact ⟨rfl, (by repeat (first | exact Below.refl _ _ | assumption | refine Below.drew ?_ | refine below_drewN ?_ _ | refine Below.alloc ?_ (by first | omega | (simp; done) | (simp; omega)) _ | refine Below.setCell ?_ (by first | omega | (simp; done) | (simp; omega)) _ | refine Below.trans ?_ (Below.mono (by assumption) (by first | omega | (simp; done) | (simp; omega)))))⟩
set_option maxHeartbeats 4000000 in
theorem leastSq_yes (b off cap : Nat) (l : List (Int × Int)) (hv : chOk l = true) (h2 : 2 ≤ l.length) (hc : l.length ≤ cap) {w : World} (ha : PairsAt w (some ⟨b, off, none⟩) l) (v0 : Int) (hv0 : v0 = roomV l) :
    Calls Try.prog 63 #[.slice (some ⟨b, off, none⟩) l.length cap] w fun e w' => e = .returned (.tuple #[.int .i64 v0, .bool true]) ∧ Below w.heap.size w w' := by
  obtain ⟨p1, p2, p3, p4⟩ := chOk_parts hv
  have hl : l.length ≤ 1048576 := by omega
  have HS := Lib.hid (fun (W : World) (hb : Below w.heap.size w W) => isChart_any (some ⟨b, off, none⟩) cap l hl (ha.below hb))
  have HR := Lib.hid (fun v (hh : IsLeast l v) => show v0 = v from hv0.trans (room_more hv h2 hh))
  have HV := Lib.hid hv
  have HA := Lib.hid ha
  have HON := Lib.hid p1
  clear hv ha p1 p2 hv0
  have u1 : ¬ ((l.length : Int) = 1) := by omega
  have u2 : ((l.length : Int) == 1) = false := by simpa using u1
  have u3 : ¬ (l.length = 1) := by omega
  have u4 : (0 : Int) < (l.length : Int) := by omega
  have u5 : (1 : Int) < (l.length : Int) := by omega
  have u6 : 0 < l.length := by omega
  have u7 : 1 < l.length := by omega
  go_enter Try.func63, Try.ntmps63
  go_wp2_with (first | (go_at_call 54; (refine (HS.out _ (by repeat (first | exact Below.refl _ _ | assumption | refine Below.drew ?_ | refine below_drewN ?_ _ | refine Below.alloc ?_ (by first | omega | (simp; done) | (simp; omega)) _ | refine Below.setCell ?_ (by first | omega | (simp; done) | (simp; omega)) _ | refine Below.trans ?_ (Below.mono (by assumption) (by first | omega | (simp; done) | (simp; omega)))))).mono ?_; rw [HV.out]; rintro e w1 ⟨rfl, hb1⟩; have hs1 := hb1.size)))
  have hbw : Below w.heap.size w w1 := (by repeat (first | exact Below.refl _ _ | assumption | refine Below.drew ?_ | refine below_drewN ?_ _ | refine Below.alloc ?_ (by first | omega | (simp; done) | (simp; omega)) _ | refine Below.setCell ?_ (by first | omega | (simp; done) | (simp; omega)) _ | refine Below.trans ?_ (Below.mono (by assumption) (by first | omega | (simp; done) | (simp; omega)))))
  clear hb1
  obtain ⟨b1, off1, hbb, c0, c1⟩ := (HA.out.below hbw) 0 u6
  obtain ⟨b2, off2, hbb2, c2, c3⟩ := (HA.out.below hbw) 1 u7
  simp only [Option.some.injEq, Addr.mk.injEq] at hbb hbb2
  obtain ⟨hx1, hx2, _⟩ := hbb
  obtain ⟨hx3, hx4, _⟩ := hbb2
  subst hx1 hx2 hx3 hx4
  rw [Nat.zero_mul, Nat.add_zero] at c0 c1
  rw [Nat.one_mul] at c2 c3
  have HSQ := Lib.hid (fun W => show Calls Try.prog 68 #[.agg #[.int .i64 (sx l 0), .int .i64 (sy l 0)], .agg #[.int .i64 (sx l 1), .int .i64 (sy l 1)]] W fun e w' => e = .returned (.int .i64 (sqp l 0 1)) ∧ Below W.heap.size W w' from squareBetween_any _ _ _ _ (allOn_at HON.out 0 u6) (allOn_at HON.out 1 u7) W)
  have HH := Lib.hid (show HasSq l (sqp l 0 1) from ⟨0, 1, by omega, u7, rfl⟩)
  obtain ⟨q, hq⟩ : ∃ q, q = sqp l 0 1 := ⟨_, rfl⟩
  rw [← hq] at HSQ HH
  clear hq
  refine wp_region_still_tail 6 (by kernel_rfl) (by kernel_rfl) ?_
  simp only [List.take_succ_cons, List.take_zero, List.drop_succ_cons, List.drop_zero]
  change wpStill _ _ (World.drew _) _ _ _
  repeat (first | still_step)
  refine wpStill_nil ?_
  change wpList _ _ _ _ _ (World.drew _)
  go_wp2_with (go_at_call 68; ((with_reducible refine (HSQ.out _).mono ?_); rintro e w3 ⟨rfl, hb3⟩; have hs3 := hb3.size; (try simp at hs3)))
  have hbw3 : Below w.heap.size w w3 := (by repeat (first | exact Below.refl _ _ | assumption | refine Below.drew ?_ | refine below_drewN ?_ _ | refine Below.alloc ?_ (by first | omega | (simp; done) | (simp; omega)) _ | refine Below.setCell ?_ (by first | omega | (simp; done) | (simp; omega)) _ | refine Below.trans ?_ (Below.mono (by assumption) (by first | omega | (simp; done) | (simp; omega)))))
  clear hb3 c0 c1 c2 c3 hbw
  go_loopw [4, 26] (fun ls i wr => ∃ (k : Nat) (v : Int), k ≤ l.length ∧ i = .int .i64 k ∧ ls = .int .i64 v ∧ Hid (HasSq l v) ∧ Hid (AllSq l v k) ∧ Below w.heap.size w wr) (fun _ i _ => l.length - (intOf i).toNat)
  case atStart => exact ⟨0, q, Nat.zero_le _, rfl, rfl, HH, Lib.hid (fun i k _ hk => absurd hk (Nat.not_lt_zero k)), hbw3⟩
  case round =>
    clear HH HSQ hbw3
    obtain ⟨k, v, hk, rfl, rfl, HH, HAL, hbr⟩ := hrel
    obtain ⟨wo, rfl⟩ : ∃ wo, wo = wr := ⟨_, rfl⟩
    have hsr := hbr.size
    by_cases hlt : k < l.length
    · obtain ⟨b1, off1, hbb, c0, c1⟩ := (HA.out.below hbr) k hlt
      simp only [Option.some.injEq, Addr.mk.injEq] at hbb
      obtain ⟨hx1, hx2, _⟩ := hbb
      subst hx1 hx2
      have i1 : (k : Int) ≤ (cap : Int) := by omega
      have i2 : k ≤ cap := by omega
      have i0 : (0 : Int) ≤ (k : Int) := by omega
      go_wp2
      have d0 : (wo.alloc (.cells #[.int .i64 (sx l k), .int .i64 (sy l k)] 27)).cell? ⟨wo.heap.size, 0, none⟩ = some (.int .i64 (sx l k)) := by rw [World.cell?_alloc_at _ _ _ _ rfl]; rfl
      have d1 : (wo.alloc (.cells #[.int .i64 (sx l k), .int .i64 (sy l k)] 27)).cell? ⟨wo.heap.size, 1, none⟩ = some (.int .i64 (sy l k)) := by rw [World.cell?_alloc_at _ _ _ _ rfl]; rfl
      have hb0 : Below w.heap.size w (wo.alloc (.cells #[.int .i64 (sx l k), .int .i64 (sy l k)] 27)) := (by repeat (first | exact Below.refl _ _ | assumption | refine Below.drew ?_ | refine below_drewN ?_ _ | refine Below.alloc ?_ (by first | omega | (simp; done) | (simp; omega)) _ | refine Below.setCell ?_ (by first | omega | (simp; done) | (simp; omega)) _ | refine Below.trans ?_ (Below.mono (by assumption) (by first | omega | (simp; done) | (simp; omega)))))
      go_loopw [4, 35] (fun ls i wr => ∃ (m : Nat) (v : Int), m ≤ k ∧ i = .int .i64 m ∧ ls = .int .i64 v ∧ Hid (HasSq l v) ∧ Hid (AllSq l v k) ∧ Hid (∀ j, j < m → v ≤ sqp l j k) ∧ wr.cell? ⟨wo.heap.size, 0, none⟩ = some (.int .i64 (sx l k)) ∧ wr.cell? ⟨wo.heap.size, 1, none⟩ = some (.int .i64 (sy l k)) ∧ Below w.heap.size w wr) (fun _ i _ => k - (intOf i).toNat)
      case atStart => exact ⟨0, v, Nat.zero_le _, rfl, rfl, HH, HAL, Lib.hid (fun j hj => absurd hj (Nat.not_lt_zero j)), d0, d1, hb0⟩
      case round =>
        clear HH HAL d0 d1 hb0 c0 c1 hbr hsr
        obtain ⟨m, v, hm, rfl, rfl, HH, HAL, HIN, d0, d1, hbr⟩ := hrel
        have hsr := hbr.size
        by_cases hlm : m < k
        · obtain ⟨b1, off1, hbb, c2, c3⟩ := (HA.out.below hbr) m (by omega)
          simp only [Option.some.injEq, Addr.mk.injEq] at hbb
          obtain ⟨hx1, hx2, _⟩ := hbb
          subst hx1 hx2
          have hwo : wo.heap.size < wr.heap.size := World.block_lt_of_cell? _ _ d0
          have n1 : ¬ wo.heap.size = wr.heap.size := by omega
          have n2 : ¬ wr.heap.size = wo.heap.size := by omega
          have HSQ := Lib.hid (fun W => show Calls Try.prog 68 #[.agg #[.int .i64 (sx l k), .int .i64 (sy l k)], .agg #[.int .i64 (sx l m), .int .i64 (sy l m)]] W fun e w' => e = .returned (.int .i64 (sqp l m k)) ∧ Below W.heap.size W w' from by unfold sqp; rw [sqr_comm]; exact squareBetween_any _ _ _ _ (allOn_at HON.out k hlt) (allOn_at HON.out m (by omega)) W)
          have HH2 := Lib.hid (HH.out.lo hlm hlt)
          have HAL2 := Lib.hid (show AllSq l (lo2 v (sqp l m k)) k from fun i j hij hj => Int.le_trans (lo2_le _ _).1 (HAL.out i j hij hj))
          have HIN2 := Lib.hid (ext_lt (p := fun j => lo2 v (sqp l m k) ≤ sqp l j k) (fun j hj => Int.le_trans (lo2_le _ _).1 (HIN.out j hj)) (lo2_le _ _).2)
          obtain ⟨q, hq⟩ : ∃ q, q = sqp l m k := ⟨_, rfl⟩
          rw [← hq] at HSQ HH2 HAL2 HIN2
          clear hq
          have j0 : (0 : Int) ≤ (m : Int) := by omega
          have j1 : (m : Int) < (k : Int) := by omega
          have v8 := minF
          go_wp2_with (go_at_call 68; ((with_reducible refine (HSQ.out _).mono ?_); rintro e w3 ⟨rfl, hb3⟩; have hs3 := hb3.size; (try simp at hs3); have q0 : w3.cell? ⟨wo.heap.size, 0, none⟩ = some (.int .i64 (sx l k)) := (hb3.cell (p := ⟨wo.heap.size, 0, none⟩) (by first | omega | (simp; done) | (simp; omega))).trans (by go_simp); have q1 : w3.cell? ⟨wo.heap.size, 1, none⟩ = some (.int .i64 (sy l k)) := (hb3.cell (p := ⟨wo.heap.size, 1, none⟩) (by first | omega | (simp; done) | (simp; omega))).trans (by go_simp)))
          go_roundw
          case rel => exact ⟨m + 1, _, by omega, by go_num, rfl, HH2, HAL2, HIN2, q0, q1, (by repeat (first | exact Below.refl _ _ | assumption | refine Below.drew ?_ | refine below_drewN ?_ _ | refine Below.alloc ?_ (by first | omega | (simp; done) | (simp; omega)) _ | refine Below.setCell ?_ (by first | omega | (simp; done) | (simp; omega)) _ | refine Below.trans ?_ (Below.mono (by assumption) (by first | omega | (simp; done) | (simp; omega)))))⟩
          case measure => simp [intOf]; omega
        · obtain rfl : m = k := by omega
          have HAL2 := Lib.hid (show AllSq l v (m + 1) from fun i j hij hj => by
            by_cases e : j = m
            · subst e; exact HIN.out i hij
            · exact HAL.out i j hij (by omega))
          go_wp2
          go_roundw
          case rel => exact ⟨m + 1, v, by omega, by go_num, rfl, HH, HAL2, (by repeat (first | exact Below.refl _ _ | assumption | refine Below.drew ?_ | refine below_drewN ?_ _ | refine Below.alloc ?_ (by first | omega | (simp; done) | (simp; omega)) _ | refine Below.setCell ?_ (by first | omega | (simp; done) | (simp; omega)) _ | refine Below.trans ?_ (Below.mono (by assumption) (by first | omega | (simp; done) | (simp; omega)))))⟩
          case measure => simp [intOf]; omega
    · obtain rfl : k = l.length := by omega
      have HE := Lib.hid (HR.out v ⟨HAL.out, HH.out⟩)
      go_wp2
      go_ret2
      exact ⟨by rw [HE.out]; rfl, (by repeat (first | exact Below.refl _ _ | assumption | refine Below.drew ?_ | refine below_drewN ?_ _ | refine Below.alloc ?_ (by first | omega | (simp; done) | (simp; omega)) _ | refine Below.setCell ?_ (by first | omega | (simp; done) | (simp; omega)) _ | refine Below.trans ?_ (Below.mono (by assumption) (by first | omega | (simp; done) | (simp; omega)))))⟩

set_option maxHeartbeats 1000000 in
theorem room_any1 (a : Option Addr) (cap : Nat) (l : List (Int × Int)) (hl : l.length ≤ 1048576) {w : World} (ha : PairsAt w a l) (h1 : l.length = 1) :
    Calls Try.prog 36 #[.slice a l.length cap] w fun e w' => e = .returned (.tuple #[.int .i64 (roomV l), .bool (chOk l)]) ∧ Below w.heap.size w w' := by
  rw [room_one h1]
  have HS := Lib.hid (fun (W : World) (hb : Below w.heap.size w W) => isChart_any a cap l hl (ha.below hb))
  have u1 : ((l.length : Int) == 1) = true := by rw [h1]; rfl
  have u2 : (l.length : Int) = 1 := by omega
  obtain ⟨n, hn⟩ : ∃ n, n = l.length := ⟨_, rfl⟩
  rw [← hn] at HS u1 u2 ⊢
  clear h1 hn
  go_enter Try.func36, Try.ntmps36
  go_wp2_with (first | (go_at_call 54; (refine (HS.out _ (by repeat (first | exact Below.refl _ _ | assumption | refine Below.drew ?_ | refine below_drewN ?_ _ | refine Below.alloc ?_ (by first | omega | (simp; done) | (simp; omega)) _ | refine Below.setCell ?_ (by first | omega | (simp; done) | (simp; omega)) _ | refine Below.trans ?_ (Below.mono (by assumption) (by first | omega | (simp; done) | (simp; omega)))))).mono ?_; rintro e w1 ⟨rfl, hb1⟩; have hs1 := hb1.size)))
  go_ret2
  exact ⟨rfl, (by repeat (first | exact Below.refl _ _ | assumption | refine Below.drew ?_ | refine below_drewN ?_ _ | refine Below.alloc ?_ (by first | omega | (simp; done) | (simp; omega)) _ | refine Below.setCell ?_ (by first | omega | (simp; done) | (simp; omega)) _ | refine Below.trans ?_ (Below.mono (by assumption) (by first | omega | (simp; done) | (simp; omega)))))⟩
set_option maxHeartbeats 1000000 in
theorem room_any (a : Option Addr) (cap : Nat) (l : List (Int × Int)) (hl : l.length ≤ 1048576) {w : World} (ha : PairsAt w a l) (hc : l.length ≤ cap) :
    Calls Try.prog 36 #[.slice a l.length cap] w fun e w' => e = .returned (.tuple #[.int .i64 (roomV l), .bool (chOk l)]) ∧ Below w.heap.size w w' := by
  by_cases h1 : l.length = 1
  · exact room_any1 a cap l hl ha h1
  · have hls : ∀ (W : World), Below w.heap.size w W → Calls Try.prog 63 #[.slice a l.length cap] W fun e w' => e = .returned (.tuple #[.int .i64 (roomV l), .bool (chOk l)]) ∧ Below W.heap.size W w' := fun W hb => by
      cases hv : chOk l
      · have e : roomV l = 0 := by unfold roomV; rw [hv]; rfl
        rw [e]
        exact leastSq_no a cap l hl (ha.below hb) hv h1
      · obtain ⟨b, off, rfl⟩ := ha.some_of (chOk_parts hv).2.2.1
        have := (chOk_parts hv).2.2.1
        exact leastSq_yes b off cap l hv (by omega) hc (ha.below hb) _ rfl
    have HLS := Lib.hid hls
    have u1 : ¬ ((l.length : Int) = 1) := by omega
    have u2 : ((l.length : Int) == 1) = false := by simpa using u1
    clear hls
    go_enter Try.func36, Try.ntmps36
    go_wp2_with (first | (go_at_call 63; (refine (HLS.out _ (by repeat (first | exact Below.refl _ _ | assumption | refine Below.drew ?_ | refine below_drewN ?_ _ | refine Below.alloc ?_ (by first | omega | (simp; done) | (simp; omega)) _ | refine Below.setCell ?_ (by first | omega | (simp; done) | (simp; omega)) _ | refine Below.trans ?_ (Below.mono (by assumption) (by first | omega | (simp; done) | (simp; omega)))))).mono ?_; rintro e w2 ⟨rfl, hb2⟩; have hs2 := hb2.size)))
    go_ret2
    exact ⟨rfl, (by repeat (first | exact Below.refl _ _ | assumption | refine Below.drew ?_ | refine below_drewN ?_ _ | refine Below.alloc ?_ (by first | omega | (simp; done) | (simp; omega)) _ | refine Below.setCell ?_ (by first | omega | (simp; done) | (simp; omega)) _ | refine Below.trans ?_ (Below.mono (by assumption) (by first | omega | (simp; done) | (simp; omega)))))⟩

end Go.Proofs.Ytjpkbgijphkibaa
