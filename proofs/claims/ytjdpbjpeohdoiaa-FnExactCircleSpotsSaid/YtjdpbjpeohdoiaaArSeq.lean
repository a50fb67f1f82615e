/- Places along an arc, both sides. Conditions: those written in each theorem. -/
import Derived.Test.YtjdpbjpeohdoiaaArArc
import Derived.Test.YtjdpbjpeohdoiaaStL
import Derived.Test.YtjdpbjpeohdoiaaFmRnd
import Derived.Test.YtjdpbjpeohdoiaaOwn
import Derived.Test.YtjdpbjpeohdoiaaToSpot
import Derived.Deep.RegionHeld3
import Derived.Deep.DrawnRows
import Derived.IntWalk
import Derived.Laws.AppendOwn
import Derived.Deep.AppendLies
import Derived.StillTailTactics
import Derived.IntWalk
import Derived.Deep.DeepCutAuto
namespace Go.Proofs.Ytjdpbjpeohdoiaa
open Go.RowKit


attribute [local go_sem ↓] Go.wp_at_zero Go.wp_at_succ

/-- Those places, if all of them are spots. -/
def onIf (l : List (Int × Int)) : List (Int × Int) := if allOn l then l else []
theorem onIf_yes {l : List (Int × Int)} (h : allOn l = true) : onIf l = l := if_pos h
theorem onIf_no {l : List (Int × Int)} (h : allOn l = false) : onIf l = [] := by unfold onIf; rw [h]; rfl
theorem onIf_length (l : List (Int × Int)) : (onIf l).length ≤ l.length := by
  unfold onIf
  split
  · exact Nat.le_refl _
  · exact Nat.zero_le _
theorem floor_bound {a m : Int} (h0 : -4000000 ≤ a) (h1 : a ≤ 4000000) (hm : 1 ≤ m) : -4000000 ≤ a.tdiv m ∧ a.tdiv m ≤ 4000000 := by
  have h : (a.tdiv m).natAbs ≤ a.natAbs := by rw [Int.natAbs_tdiv]; exact Nat.div_le_self _ _
  omega
/-- The k-th of n numbers from one to another, and the places there. -/
def arcT (fr tu n k : Int) : Int := fr + (k * (tu - fr)) / (n - 1)
def arcTo (x y r fr tu n : Int) : Nat → List (Int × Int)
  | 0 => []
  | k + 1 => arcTo x y r fr tu n k ++ [(x + arcT fr tu n (k : Int), y + arcY r (arcT fr tu n (k : Int)))]
theorem arcTo_length (x y r fr tu n : Int) : ∀ k, (arcTo x y r fr tu n k).length = k
  | 0 => rfl
  | k + 1 => by rw [arcTo, List.length_append, arcTo_length x y r fr tu n k]; rfl
theorem arcT_bound {fr tu n k r : Int} (h1 : -r ≤ fr) (h2 : fr ≤ r) (h3 : -r ≤ tu) (h4 : tu ≤ r) (hn : 2 ≤ n) (hk0 : 0 ≤ k) (hk : k ≤ n - 1) : -r ≤ arcT fr tu n k ∧ arcT fr tu n k ≤ r := by
  unfold arcT
  by_cases hd : 0 ≤ tu - fr
  · have a1 : 0 ≤ k * (tu - fr) := Int.mul_nonneg hk0 hd
    have a2 : k * (tu - fr) ≤ (n - 1) * (tu - fr) := Int.mul_le_mul_of_nonneg_right hk hd
    have b1 : 0 ≤ k * (tu - fr) / (n - 1) := Int.ediv_nonneg a1 (by omega)
    have b2 : k * (tu - fr) / (n - 1) ≤ tu - fr := Int.ediv_le_of_le_mul (by omega) (by rw [Int.mul_comm (tu - fr) (n - 1)]; exact a2)
    omega
  · have a1 : k * (tu - fr) ≤ 0 := by
      have := Int.mul_nonneg hk0 (show 0 ≤ -(tu - fr) by omega)
      rw [Int.mul_neg] at this
      omega
    have a2 : (n - 1) * (tu - fr) ≤ k * (tu - fr) := by
      have := Int.mul_le_mul_of_nonneg_right hk (show 0 ≤ -(tu - fr) by omega)
      rw [Int.mul_neg, Int.mul_neg] at this
      omega
    have b1 : k * (tu - fr) / (n - 1) ≤ 0 := Int.ediv_le_of_le_mul (by omega) (by omega)
    have b2 : tu - fr ≤ k * (tu - fr) / (n - 1) := Int.le_ediv_of_mul_le (by omega) (by rw [Int.mul_comm (tu - fr) (n - 1)]; exact a2)
    omega
theorem allOn_snoc (l : List (Int × Int)) (x y : Int) : allOn (l ++ [(x, y)]) = (allOn l && onField x y) := by simp [allOn, allP]
theorem arcTo_off {x y r fr tu n : Int} {k : Nat} (h : onField (x + arcT fr tu n (k : Int)) (y + arcY r (arcT fr tu n (k : Int))) = false) : ∀ m, k < m → allOn (arcTo x y r fr tu n m) = false
  | 0, hm => absurd hm (Nat.not_lt_zero k)
  | m + 1, hm => by
    rw [arcTo, allOn_snoc]
    by_cases e : k = m
    · subst e; rw [h, Bool.and_false]
    · rw [arcTo_off h m (by omega)]; rfl
def arcG (x y r fr tu n : Int) : Bool := arOk x y r && inB (-r) fr r && inB (-r) tu r && inB 2 n 40
def arcL (x y r fr tu n : Int) : List (Int × Int) := if arcG x y r fr tu n then arcTo x y r fr tu n n.toNat else []
theorem arcL_length (x y r fr tu n : Int) : (arcL x y r fr tu n).length ≤ 40 := by
  unfold arcL
  split
  · rename_i h
    unfold arcG at h
    rw [Bool.and_eq_true, inB_iff] at h
    rw [arcTo_length]
    omega
  · exact Nat.zero_le _

set_option maxHeartbeats 1000000 in
theorem floored_any (n d : Int) (hn0 : -4000000 ≤ n) (hn1 : n ≤ 4000000) (hd0 : 1 ≤ d) (w : World) :
    Calls Try.prog 50 #[.int .i64 n, .int .i64 d] w fun e w' => e = .returned (.int .i64 (n / d)) ∧ w = w' := by
  obtain ⟨q1, q2⟩ := floor_bound hn0 hn1 hd0
  have v1 : wrap64 (n.tdiv d) = n.tdiv d := IntWalk.wrap64_in _ ⟨by omega, by omega⟩
  have z1 : (d == 0) = false := by simp; omega
  have z2 : ¬ d = 0 := by omega
  by_cases hm : n.tmod d < 0
  · have E0 := Lib.hid (tdiv_up (show 0 < d by omega) hm)
    go_enter Try.func50, Try.ntmps50
    go_wp2
    go_ret
    exact ⟨by rw [E0.out]; rfl, rfl⟩
  · have E0 := Lib.hid (tdiv_same (show 0 < d by omega) hm)
    go_enter Try.func50, Try.ntmps50
    go_wp2
    go_ret
    exact ⟨by rw [E0.out]; rfl, rfl⟩

set_option maxHeartbeats 1000000 in
theorem arFloor_any (n d : Int) (hn0 : -4000000 ≤ n) (hn1 : n ≤ 4000000) (hd0 : 1 ≤ d) (w : World) :
    Calls Try.prog 49 #[.int .i64 n, .int .i64 d] w fun e w' => e = .returned (.int .i64 (n / d)) ∧ w = w' := by
  obtain ⟨q1, q2⟩ := floor_bound hn0 hn1 hd0
  have v1 : wrap64 (n.tdiv d) = n.tdiv d := IntWalk.wrap64_in _ ⟨by omega, by omega⟩
  have z1 : (d == 0) = false := by simp; omega
  have z2 : ¬ d = 0 := by omega
  by_cases hm : n.tmod d < 0
  · have E0 := Lib.hid (tdiv_up (show 0 < d by omega) hm)
    go_enter Try.func49, Try.ntmps49
    go_wp2
    go_ret
    exact ⟨by rw [E0.out]; rfl, rfl⟩
  · have E0 := Lib.hid (tdiv_same (show 0 < d by omega) hm)
    go_enter Try.func49, Try.ntmps49
    go_wp2
    go_ret
    exact ⟨by rw [E0.out]; rfl, rfl⟩

set_option maxHeartbeats 1000000 in
theorem spotsOf_no (a : Option Addr) (cap : Nat) (l : List (Int × Int)) (hl : l.length ≤ 1048576) {w : World} (ha : PairsAt w a l) (hv : okList l = false) :
    Calls Try.prog 51 #[.slice a l.length cap] w fun e w' => e = .returned (.tuple #[.slice none 0 0, .bool false]) ∧ Below w.heap.size w w' := by
  have HS := Lib.hid (fun (W : World) (hb : Below w.heap.size w W) => areSpots_any a cap l hl (ha.below hb))
  have HV := Lib.hid hv
  clear hv
  go_enter Try.func51, Try.ntmps51
  go_wp2_with (first | (go_at_call 61; (refine (HS.out _ (by repeat (first | exact Below.refl _ _ | assumption | refine Below.drew ?_ | refine below_drewN ?_ _ | refine Below.alloc ?_ (by first | omega | (simp; done) | (simp; omega)) _ | refine Below.setCell ?_ (by first | omega | (simp; done) | (simp; omega)) _ | refine Below.trans ?_ (Below.mono (by assumption) (by first | omega | (simp; done) | (simp; omega)))))).mono ?_; rw [HV.out]; rintro e w1 ⟨rfl, hb1⟩; have hs1 := hb1.size)))
  go_ret2
  exact ⟨rfl, (by repeat (first | exact Below.refl _ _ | assumption | refine Below.drew ?_ | refine below_drewN ?_ _ | refine Below.alloc ?_ (by first | omega | (simp; done) | (simp; omega)) _ | refine Below.setCell ?_ (by first | omega | (simp; done) | (simp; omega)) _ | refine Below.trans ?_ (Below.mono (by assumption) (by first | omega | (simp; done) | (simp; omega)))))⟩

set_option maxHeartbeats 1000000 in
theorem spotsOf_yes (a : Option Addr) (cap : Nat) (l : List (Int × Int)) (hl : l.length ≤ 1048576) {w : World} (ha : PairsAt w a l) (hv : okList l = true) :
    Calls Try.prog 51 #[.slice a l.length cap] w fun e w' => e = .returned (.tuple #[.slice a l.length cap, .bool true]) ∧ Below w.heap.size w w' := by
  have HS := Lib.hid (fun (W : World) (hb : Below w.heap.size w W) => areSpots_any a cap l hl (ha.below hb))
  have HV := Lib.hid hv
  clear hv
  go_enter Try.func51, Try.ntmps51
  go_wp2_with (first | (go_at_call 61; (refine (HS.out _ (by repeat (first | exact Below.refl _ _ | assumption | refine Below.drew ?_ | refine below_drewN ?_ _ | refine Below.alloc ?_ (by first | omega | (simp; done) | (simp; omega)) _ | refine Below.setCell ?_ (by first | omega | (simp; done) | (simp; omega)) _ | refine Below.trans ?_ (Below.mono (by assumption) (by first | omega | (simp; done) | (simp; omega)))))).mono ?_; rw [HV.out]; rintro e w1 ⟨rfl, hb1⟩; have hs1 := hb1.size)))
  go_ret2
  exact ⟨rfl, (by repeat (first | exact Below.refl _ _ | assumption | refine Below.drew ?_ | refine below_drewN ?_ _ | refine Below.alloc ?_ (by first | omega | (simp; done) | (simp; omega)) _ | refine Below.setCell ?_ (by first | omega | (simp; done) | (simp; omega)) _ | refine Below.trans ?_ (Below.mono (by assumption) (by first | omega | (simp; done) | (simp; omega)))))⟩

theorem spotsOf {w : World} {base : Nat} {v : Value} {l : List (Int × Int)} (hl : l.length ≤ 40) (ho : OwnPairs 27 w base v l) :
    Calls Try.prog 51 #[v] w fun e w' => ∃ v', e = .returned (.tuple #[v', .bool (allOn l)]) ∧ OwnPairs 27 w' base v' (onIf l) ∧ Below w.heap.size w w' := by
  obtain ⟨a, cap, rfl, ha, _⟩ := own_viewP ho
  have hk : okList l = allOn l := by unfold okList; rw [decide_eq_true hl, Bool.and_true]
  cases hv : allOn l
  · rw [onIf_no hv]
    exact (spotsOf_no a cap l (by omega) ha (hk.trans hv)).mono fun e w' ⟨he, hb⟩ => ⟨_, he, own_nil _ _ _, hb⟩
  · rw [onIf_yes hv]
    exact (spotsOf_yes a cap l (by omega) ha (hk.trans hv)).mono fun e w' ⟨he, hb⟩ => ⟨_, he, own_below ho hb, hb⟩

set_option maxHeartbeats 2000000 in
theorem specArc_no (x1 y1 r fr tu n : Int) (hk : arcG x1 y1 r fr tu n = false) (w : World) :
    Calls Try.prog 19 #[.agg #[.int .i64 x1, .int .i64 y1], .int .i64 r, .int .i64 fr, .int .i64 tu, .int .i64 n] w fun e w' => e = .returned (.tuple #[.slice none 0 0, .bool false]) ∧ Below w.heap.size w w' := by
  unfold arcG at hk
  cases h1 : arOk x1 y1 r
  · have H1 := Lib.hid h1
    clear hk h1
    go_enter Try.func19, Try.ntmps19
    go_wp2_with (first | (go_at_call 44; (refine (arGood_any _ _ _ _).mono ?_; rw [H1.out]; rintro e w1 ⟨rfl, hb1⟩; have hs1 := hb1.size; (try simp at hs1))))
    go_ret2
    exact ⟨rfl, (by repeat (first | exact Below.refl _ _ | assumption | refine Below.drew ?_ | refine below_drewN ?_ _ | refine Below.alloc ?_ (by first | omega | (simp; done) | (simp; omega)) _ | refine Below.setCell ?_ (by first | omega | (simp; done) | (simp; omega)) _ | refine Below.trans ?_ (Below.mono (by assumption) (by first | omega | (simp; done) | (simp; omega)))))⟩
  · obtain ⟨o1, r1, r2⟩ := arOk_parts h1
    cases h2 : inB (-r) fr r <;> cases h3 : inB (-r) tu r <;> cases h4 : inB 2 n 40
    all_goals first | (exfalso; rw [h1, h2, h3, h4] at hk; cases hk; done) | clear hk
    all_goals
      have H1 := Lib.hid h1
      clear h1 o1
      go_enter Try.func19, Try.ntmps19
      go_wp2_with (first | (go_at_call 44; (refine (arGood_any _ _ _ _).mono ?_; rw [H1.out]; rintro e w1 ⟨rfl, hb1⟩; have hs1 := hb1.size; (try simp at hs1))) | (go_at_call 40; ((with_reducible refine (l1In_any _ _ _ _).mono ?_); rintro e w' ⟨rfl, rfl⟩)))
      go_ret2
      exact ⟨rfl, (by repeat (first | exact Below.refl _ _ | assumption | refine Below.drew ?_ | refine below_drewN ?_ _ | refine Below.alloc ?_ (by first | omega | (simp; done) | (simp; omega)) _ | refine Below.setCell ?_ (by first | omega | (simp; done) | (simp; omega)) _ | refine Below.trans ?_ (Below.mono (by assumption) (by first | omega | (simp; done) | (simp; omega)))))⟩

set_option maxHeartbeats 2000000 in
theorem arc_no (x1 y1 r fr tu n : Int) (hk : arcG x1 y1 r fr tu n = false) (w : World) :
    Calls Try.prog 20 #[.agg #[.int .i64 x1, .int .i64 y1], .int .i64 r, .int .i64 fr, .int .i64 tu, .int .i64 n] w fun e w' => e = .returned (.tuple #[.slice none 0 0, .bool false]) ∧ Below w.heap.size w w' := by
  unfold arcG at hk
  cases h1 : arOk x1 y1 r
  · have H1 := Lib.hid h1
    clear hk h1
    go_enter Try.func20, Try.ntmps20
    go_wp2_with (first | (go_at_call 46; (refine (isArc_any _ _ _ _).mono ?_; rw [H1.out]; rintro e w1 ⟨rfl, hb1⟩; have hs1 := hb1.size; (try simp at hs1))))
    go_ret2
    exact ⟨rfl, (by repeat (first | exact Below.refl _ _ | assumption | refine Below.drew ?_ | refine below_drewN ?_ _ | refine Below.alloc ?_ (by first | omega | (simp; done) | (simp; omega)) _ | refine Below.setCell ?_ (by first | omega | (simp; done) | (simp; omega)) _ | refine Below.trans ?_ (Below.mono (by assumption) (by first | omega | (simp; done) | (simp; omega)))))⟩
  · obtain ⟨o1, r1, r2⟩ := arOk_parts h1
    cases h2 : inB (-r) fr r <;> cases h3 : inB (-r) tu r <;> cases h4 : inB 2 n 40
    all_goals first | (exfalso; rw [h1, h2, h3, h4] at hk; cases hk; done) | clear hk
    all_goals
      have H1 := Lib.hid h1
      clear h1 o1
      go_enter Try.func20, Try.ntmps20
      go_wp2_with (first | (go_at_call 46; (refine (isArc_any _ _ _ _).mono ?_; rw [H1.out]; rintro e w1 ⟨rfl, hb1⟩; have hs1 := hb1.size; (try simp at hs1))) | (go_at_call 42; ((with_reducible refine (inRange_any _ _ _ _).mono ?_); rintro e w' ⟨rfl, rfl⟩)))
      go_ret2
      exact ⟨rfl, (by repeat (first | exact Below.refl _ _ | assumption | refine Below.drew ?_ | refine below_drewN ?_ _ | refine Below.alloc ?_ (by first | omega | (simp; done) | (simp; omega)) _ | refine Below.setCell ?_ (by first | omega | (simp; done) | (simp; omega)) _ | refine Below.trans ?_ (Below.mono (by assumption) (by first | omega | (simp; done) | (simp; omega)))))⟩

theorem prodN {a A : Int} {k : Nat} (h0 : -A ≤ a) (h1 : a ≤ A) (hk : k ≤ 40) : -(40 * A) ≤ (k : Int) * a ∧ (k : Int) * a ≤ 40 * A := by
  have b1 : (k : Int) * a ≤ (k : Int) * A := Int.mul_le_mul_of_nonneg_left h1 (by omega)
  have b2 : (k : Int) * (-A) ≤ (k : Int) * a := Int.mul_le_mul_of_nonneg_left h0 (by omega)
  have b3 : (k : Int) * A ≤ 40 * A := Int.mul_le_mul_of_nonneg_right (by omega) (by omega)
  rw [Int.mul_neg] at b2
  omega

set_option maxHeartbeats 4000000 in
theorem arc_yes (x1 y1 r fr tu : Int) (N : Nat) (h1 : arOk x1 y1 r = true) (h2 : inB (-r) fr r = true) (h3 : inB (-r) tu r = true) (n1 : 2 ≤ N) (n2 : N ≤ 40) (w : World) :
    Calls Try.prog 20 #[.agg #[.int .i64 x1, .int .i64 y1], .int .i64 r, .int .i64 fr, .int .i64 tu, .int .i64 N] w fun e w' => ∃ v, e = .returned (.tuple #[v, .bool (allOn (arcTo x1 y1 r fr tu N N))]) ∧ OwnPairs 27 w' w.heap.size v (onIf (arcTo x1 y1 r fr tu N N)) ∧ Below w.heap.size w w' := by
  obtain ⟨j0, hi, hz0, hz1, hz2⟩ := info_parts Try.infoSpot
  have HI := Lib.hid hi
  have HZ0 := Lib.hid hz0
  have HZ1 := Lib.hid hz1
  have HZ2 := Lib.hid hz2
  clear hi hz0 hz1 hz2
  obtain ⟨o1, r1, r2⟩ := arOk_parts h1
  obtain ⟨t1, t2⟩ := inB_iff.1 h2
  obtain ⟨t3, t4⟩ := inB_iff.1 h3
  obtain ⟨⟨p1, p2⟩, p3, p4⟩ := onField_iff.1 o1
  have hin : inB 2 (N : Int) 40 = true := inB_iff.2 ⟨by omega, by omega⟩
  have HO1 := Lib.hid h1
  have HI2 := Lib.hid h2
  have HI3 := Lib.hid h3
  have HI4 := Lib.hid hin
  have v1 : IntKind.i64.wrap ((N : Int) - 1) = (N : Int) - 1 := IntWalk.i64_in _ (by omega)
  have v2 : IntKind.i64.wrap (tu - fr) = tu - fr := IntWalk.i64_in _ (by omega)
  have v9 : IntKind.i64.wrap (-r) = -r := IntWalk.i64_in _ (by omega)
  have hlen : (arcTo x1 y1 r fr tu N N).length ≤ 40 := by rw [arcTo_length]; exact n2
  obtain ⟨L, hL⟩ : ∃ L, L = arcTo x1 y1 r fr tu N := ⟨_, rfl⟩
  have HL0 := Lib.hid (show L 0 = [] by rw [hL]; rfl)
  have HLS := Lib.hid (show ∀ k : Nat, L (k + 1) = L k ++ [(x1 + arcT fr tu N (k : Int), y1 + arcY r (arcT fr tu N (k : Int)))] by rw [hL]; intro k; rfl)
  have HLN := Lib.hid (show ∀ k, (L k).length = k by rw [hL]; intro k; exact arcTo_length _ _ _ _ _ _ k)
  have HLF := Lib.hid (show ∀ k : Nat, onField (x1 + arcT fr tu N (k : Int)) (y1 + arcY r (arcT fr tu N (k : Int))) = false → k < N → allOn (L N) = false by rw [hL]; intro k hk hlt; exact arcTo_off hk N hlt)
  have HLY := Lib.hid (show ∀ k : Nat, allOn (L (k + 1)) = (allOn (L k) && onField (x1 + arcT fr tu N (k : Int)) (y1 + arcY r (arcT fr tu N (k : Int)))) by rw [hL]; intro k; exact allOn_snoc _ _ _)
  rw [← hL] at hlen ⊢
  clear hL h1 h2 h3 hin o1
  have HSO := Lib.hid (fun W b v ho => spotsOf (w := W) (base := b) (v := v) hlen ho)
  clear hlen
  go_enter Try.func20, Try.ntmps20
  go_wp2_with (first | (go_at_call 46; (refine (isArc_any _ _ _ _).mono ?_; rw [HO1.out]; rintro e w1 ⟨rfl, hb1⟩; have hs1 := hb1.size; (try simp at hs1); have d0 : w1.cell? ⟨w.heap.size, 0, none⟩ = some (.int .i64 x1) := (hb1.cell (p := ⟨w.heap.size, 0, none⟩) (by first | omega | (simp; done) | (simp; omega))).trans (by go_simp); have d1 : w1.cell? ⟨w.heap.size, 1, none⟩ = some (.int .i64 y1) := (hb1.cell (p := ⟨w.heap.size, 1, none⟩) (by first | omega | (simp; done) | (simp; omega))).trans (by go_simp))) | (go_at_call 42; ((with_reducible refine (inRange_any _ _ _ _).mono ?_); rw [HI2.out]; rintro e w' ⟨rfl, rfl⟩)) | (go_at_call 42; ((with_reducible refine (inRange_any _ _ _ _).mono ?_); rw [HI3.out]; rintro e w' ⟨rfl, rfl⟩)) | (go_at_call 42; ((with_reducible refine (inRange_any _ _ _ _).mono ?_); rw [HI4.out]; rintro e w' ⟨rfl, rfl⟩)))
  have hbw : Below w.heap.size w w1 := (by repeat (first | exact Below.refl _ _ | assumption | refine Below.drew ?_ | refine below_drewN ?_ _ | refine Below.alloc ?_ (by first | omega | (simp; done) | (simp; omega)) _ | refine Below.setCell ?_ (by first | omega | (simp; done) | (simp; omega)) _ | refine Below.trans ?_ (Below.mono (by assumption) (by first | omega | (simp; done) | (simp; omega)))))
  clear hb1
  go_loopw [12, 39] (fun ov i wr => ∃ (k : Nat) (vo : Value), k ≤ N ∧ i = .int .i64 k ∧ ov = vo ∧ Hid (OwnPairs 27 wr (w.heap.size + 1) vo (L k)) ∧ wr.cell? ⟨w.heap.size, 0, none⟩ = some (.int .i64 x1) ∧ wr.cell? ⟨w.heap.size, 1, none⟩ = some (.int .i64 y1) ∧ Below w.heap.size w wr ∧ w.heap.size + 1 ≤ wr.heap.size) (fun _ i _ => N - (intOf i).toNat)
  case atStart => exact ⟨0, _, Nat.zero_le _, rfl, rfl, Lib.hid (by rw [HL0.out]; exact own_nil _ _ _), d0, d1, hbw, (by first | omega | (simp; done) | (simp; omega))⟩
  case round =>
    clear d0 d1 hbw
    obtain ⟨k, vo, hk, rfl, hv, HOWN, d0, d1, hbr, hws⟩ := hrel
    replace hv := hv.symm
    subst hv
    have hsr := hbr.size
    by_cases hlt : k < N
    · have hkk : (k : Int) ≤ (N : Int) - 1 := by omega
      have hT := arcT_bound (n := (N : Int)) (k := (k : Int)) t1 t2 t3 t4 (by omega) (by omega) hkk
      have hdef : arcT fr tu N (k : Int) = fr + ((k : Int) * (tu - fr)) / ((N : Int) - 1) := rfl
      have hls := HLS.out k
      have hlf := HLF.out k
      have hly := HLY.out k
      have hlln := HLN.out k
      have hm0 : -4000000 ≤ (k : Int) * (tu - fr) ∧ (k : Int) * (tu - fr) ≤ 4000000 := by
        have a1 := prodN (a := tu - fr) (k := k) (A := 2800) (by omega) (by omega) (show k ≤ 40 by omega)
        omega
      obtain ⟨T, hTT⟩ : ∃ T, T = arcT fr tu N (k : Int) := ⟨_, rfl⟩
      rw [← hTT] at hT hdef hls hlf hly
      obtain ⟨T1, T2⟩ := hT
      obtain ⟨m, hm⟩ : ∃ m, m = (k : Int) * (tu - fr) := ⟨_, rfl⟩
      rw [← hm] at hdef hm0
      have v3 : IntKind.i64.wrap ((k : Int) * (tu - fr)) = m := by rw [hm]; rw [hm] at hm0; exact IntWalk.i64_in _ (by omega)
      obtain ⟨q, hq⟩ : ∃ q, q = m / ((N : Int) - 1) := ⟨_, rfl⟩
      have HFQ := Lib.hid (fun W => floored_any m ((N : Int) - 1) hm0.1 hm0.2 (by omega) W)
      rw [← hq] at HFQ hdef
      have v4 : IntKind.i64.wrap (fr + q) = T := by rw [← hdef]; exact IntWalk.i64_in _ (by omega)
      have hYb := arcY_bound r1 r2 T1 T2
      have HPL := Lib.hid (fun W => placeOnArc_any x1 y1 r T (by omega) (by omega) (by omega) (by omega) r1 r2 T1 T2 W)
      obtain ⟨X, hX⟩ : ∃ X, X = x1 + T := ⟨_, rfl⟩
      obtain ⟨Y, hY⟩ : ∃ Y, Y = y1 + arcY r T := ⟨_, rfl⟩
      rw [← hX, ← hY] at HPL hls
      have HST := Lib.hid hls
      obtain ⟨acc, hacc⟩ : ∃ acc, acc = L k := ⟨_, rfl⟩
      rw [← hacc] at HOWN HST hlln
      have hal9 : acc.length ≤ 40 := by omega
      have HOL := Lib.hid (World.ownsRow.lt HOWN.out)
      have HOWN2 := Lib.hid (fun (W : World) (hb : Below wr.heap.size wr W) => own_below HOWN.out hb)
      clear hls hlf hly hdef hTT hm hm0 hq hX hY hYb hacc hlln
      have n7 : w.heap.size < wr.heap.size := by omega
      go_wp2_with (first | (go_at_call 50; ((with_reducible refine (HFQ.out _).mono ?_); rintro e w' ⟨rfl, rfl⟩)) | (go_at_call 48; ((with_reducible refine (HPL.out _).mono ?_); rintro e w3 ⟨rfl, hb3⟩; have hs3 := hb3.size; (try simp at hs3); have q0 : w3.cell? ⟨w.heap.size, 0, none⟩ = some (.int .i64 x1) := (hb3.cell (p := ⟨w.heap.size, 0, none⟩) (by first | omega | (simp; done) | (simp; omega))).trans d0; have q1 : w3.cell? ⟨w.heap.size, 1, none⟩ = some (.int .i64 y1) := (hb3.cell (p := ⟨w.heap.size, 1, none⟩) (by first | omega | (simp; done) | (simp; omega))).trans d1; have hbr3 : Below wr.heap.size wr w3 := (by repeat (first | exact Below.refl _ _ | assumption | refine Below.drew ?_ | refine below_drewN ?_ _ | refine Below.alloc ?_ (by first | omega | (simp; done) | (simp; omega)) _ | refine Below.setCell ?_ (by first | omega | (simp; done) | (simp; omega)) _ | refine Below.trans ?_ (Below.mono (by assumption) (by first | omega | (simp; done) | (simp; omega))))); have hb33 : Below w.heap.size w w3 := Below.trans hbr (Below.mono hbr3 hsr))) | (at_builtin; refine wpList_append_lies _ rfl _ _ 33 rfl (w.heap.size + 1) 27 j0 (.agg #[.int .i64 0, .int .i64 0]) 2 16 Try.underlying33 HI.out HZ0.out HZ1.out HZ2.out rfl (by omega) vo (acc.length) (pairV acc) rfl (HOWN2.out _ (Below.alloc hbr3 hbr3.size _)) ⟨_, 0, none⟩ 1 1 [.int .i64 (X), .int .i64 (Y)] rfl rfl (World.news_of_block (cs := #[.int .i64 (X), .int .i64 (Y)]) (t := 27) (fr := (0, 0)) (heap_alloc_new _ _)) (by simp [Value.oneCell']) (by omega) (by unfold maxLen; omega) (by omega) (by simp; omega) _ rfl ?_; intro gg cap5 w5 hown5 hgrow5 hat5 hlt5))
      have hne : ∀ b, b ≤ w.heap.size → some b ≠ vo.ownBlock := fun b hb e => by have := HOL.out b e.symm; omega
      have f0 : w5.cell? ⟨w.heap.size, 0, none⟩ = some (.int .i64 x1) := (hgrow5.cell_far ⟨w.heap.size, 0, none⟩ (by first | omega | (simp; done) | (simp; omega)) (hne _ (Nat.le_refl _))).trans ((World.cell?_alloc_past _ _ _ (by omega)).trans q0)
      have f1 : w5.cell? ⟨w.heap.size, 1, none⟩ = some (.int .i64 y1) := (hgrow5.cell_far ⟨w.heap.size, 1, none⟩ (by first | omega | (simp; done) | (simp; omega)) (hne _ (Nat.le_refl _))).trans ((World.cell?_alloc_past _ _ _ (by omega)).trans q1)
      have hb5 : Below w.heap.size w w5 := Below.grown (Below.alloc hb33 hb33.size _) hgrow5 (by first | (simp; omega) | omega) (fun q hq => by have := HOL.out q hq; omega)
      have hown6 : OwnPairs 27 w5 (w.heap.size + 1) (.slice (some ⟨gg, 0, none⟩) (acc.length + 1) cap5) (L (k + 1)) := by rw [HST.out, OwnPairs, pairV_append, List.length_append]; simpa [pairV] using hown5
      have HO6 := Lib.hid hown6
      have hs6 := hgrow5.size
      (try simp at hs6)
      clear hat5 hgrow5 hown5 hown6 hne q0 q1
      have hs5 := hb5.size
      go_wp2
      go_roundw
      case rel => exact ⟨k + 1, _, by omega, by go_num, rfl, HO6, f0, f1, hb5, by omega⟩
      case measure => simp [intOf]; omega
    · obtain rfl : k = N := by omega
      have HOB := Lib.hid (fun (W : World) (hb : Below wr.heap.size wr W) => own_below HOWN.out hb)
      go_wp2_with (go_at_call 51; (refine (HSO.out _ _ _ (HOB.out _ (by repeat (first | exact Below.refl _ _ | assumption | refine Below.drew ?_ | refine below_drewN ?_ _ | refine Below.alloc ?_ (by first | omega | (simp; done) | (simp; omega)) _ | refine Below.setCell ?_ (by first | omega | (simp; done) | (simp; omega)) _ | refine Below.trans ?_ (Below.mono (by assumption) (by first | omega | (simp; done) | (simp; omega))))))).mono ?_; rintro e w4 ⟨v4, rfl, ho4, hb4⟩; have hs4 := hb4.size))
      go_ret2
      exact ⟨_, rfl, own_mono ho4 (by omega), (by repeat (first | exact Below.refl _ _ | assumption | refine Below.drew ?_ | refine below_drewN ?_ _ | refine Below.alloc ?_ (by first | omega | (simp; done) | (simp; omega)) _ | refine Below.setCell ?_ (by first | omega | (simp; done) | (simp; omega)) _ | refine Below.trans ?_ (Below.mono (by assumption) (by first | omega | (simp; done) | (simp; omega)))))⟩

set_option maxHeartbeats 8000000 in
theorem specArc_yes (x1 y1 r fr tu : Int) (N : Nat) (h1 : arOk x1 y1 r = true) (h2 : inB (-r) fr r = true) (h3 : inB (-r) tu r = true) (n1 : 2 ≤ N) (n2 : N ≤ 40) (w : World) :
    Calls Try.prog 19 #[.agg #[.int .i64 x1, .int .i64 y1], .int .i64 r, .int .i64 fr, .int .i64 tu, .int .i64 N] w fun e w' => ∃ v, e = .returned (.tuple #[v, .bool (allOn (arcTo x1 y1 r fr tu N N))]) ∧ OwnPairs 27 w' w.heap.size v (onIf (arcTo x1 y1 r fr tu N N)) ∧ Below w.heap.size w w' := by
  have HKA := Lib.hid (fun t W => specOnArc_any x1 y1 r t W)
  have HKT := Lib.hid (fun t (ht : inB (-r) t r = true) => show onK x1 y1 r t = onField (x1 + t) (y1 + arcY r t) by unfold onK; rw [h1, ht]; rfl)
  obtain ⟨j0, hi, hz0, hz1, hz2⟩ := info_parts Try.infoSpot
  have HI := Lib.hid hi
  have HZ0 := Lib.hid hz0
  have HZ1 := Lib.hid hz1
  have HZ2 := Lib.hid hz2
  clear hi hz0 hz1 hz2
  obtain ⟨o1, r1, r2⟩ := arOk_parts h1
  obtain ⟨t1, t2⟩ := inB_iff.1 h2
  obtain ⟨t3, t4⟩ := inB_iff.1 h3
  obtain ⟨⟨p1, p2⟩, p3, p4⟩ := onField_iff.1 o1
  have hin : inB 2 (N : Int) 40 = true := inB_iff.2 ⟨by omega, by omega⟩
  have HO1 := Lib.hid h1
  have HI2 := Lib.hid h2
  have HI3 := Lib.hid h3
  have HI4 := Lib.hid hin
  have v1 : IntKind.i64.wrap ((N : Int) - 1) = (N : Int) - 1 := IntWalk.i64_in _ (by omega)
  have v2 : IntKind.i64.wrap (tu - fr) = tu - fr := IntWalk.i64_in _ (by omega)
  have v9 : IntKind.i64.wrap (-r) = -r := IntWalk.i64_in _ (by omega)
  have hlen : (arcTo x1 y1 r fr tu N N).length ≤ 40 := by rw [arcTo_length]; exact n2
  obtain ⟨L, hL⟩ : ∃ L, L = arcTo x1 y1 r fr tu N := ⟨_, rfl⟩
  have HL0 := Lib.hid (show L 0 = [] by rw [hL]; rfl)
  have HLS := Lib.hid (show ∀ k : Nat, L (k + 1) = L k ++ [(x1 + arcT fr tu N (k : Int), y1 + arcY r (arcT fr tu N (k : Int)))] by rw [hL]; intro k; rfl)
  have HLN := Lib.hid (show ∀ k, (L k).length = k by rw [hL]; intro k; exact arcTo_length _ _ _ _ _ _ k)
  have HLF := Lib.hid (show ∀ k : Nat, onField (x1 + arcT fr tu N (k : Int)) (y1 + arcY r (arcT fr tu N (k : Int))) = false → k < N → allOn (L N) = false by rw [hL]; intro k hk hlt; exact arcTo_off hk N hlt)
  have HLY := Lib.hid (show ∀ k : Nat, allOn (L (k + 1)) = (allOn (L k) && onField (x1 + arcT fr tu N (k : Int)) (y1 + arcY r (arcT fr tu N (k : Int)))) by rw [hL]; intro k; exact allOn_snoc _ _ _)
  rw [← hL] at hlen ⊢
  clear hL h1 h2 h3 hin o1
  clear hlen
  go_enter Try.func19, Try.ntmps19
  go_wp2_with (first | (go_at_call 44; (refine (arGood_any _ _ _ _).mono ?_; rw [HO1.out]; rintro e w1 ⟨rfl, hb1⟩; have hs1 := hb1.size; (try simp at hs1); have d0 : w1.cell? ⟨w.heap.size, 0, none⟩ = some (.int .i64 x1) := (hb1.cell (p := ⟨w.heap.size, 0, none⟩) (by first | omega | (simp; done) | (simp; omega))).trans (by go_simp); have d1 : w1.cell? ⟨w.heap.size, 1, none⟩ = some (.int .i64 y1) := (hb1.cell (p := ⟨w.heap.size, 1, none⟩) (by first | omega | (simp; done) | (simp; omega))).trans (by go_simp))) | (go_at_call 40; ((with_reducible refine (l1In_any _ _ _ _).mono ?_); rw [HI2.out]; rintro e w' ⟨rfl, rfl⟩)) | (go_at_call 40; ((with_reducible refine (l1In_any _ _ _ _).mono ?_); rw [HI3.out]; rintro e w' ⟨rfl, rfl⟩)) | (go_at_call 40; ((with_reducible refine (l1In_any _ _ _ _).mono ?_); rw [HI4.out]; rintro e w' ⟨rfl, rfl⟩)))
  have hbw : Below w.heap.size w w1 := (by repeat (first | exact Below.refl _ _ | assumption | refine Below.drew ?_ | refine below_drewN ?_ _ | refine Below.alloc ?_ (by first | omega | (simp; done) | (simp; omega)) _ | refine Below.setCell ?_ (by first | omega | (simp; done) | (simp; omega)) _ | refine Below.trans ?_ (Below.mono (by assumption) (by first | omega | (simp; done) | (simp; omega)))))
  clear hb1
  go_loopw [12, 13] (fun ov i wr => ∃ (k : Nat) (vo : Value), k ≤ N ∧ i = .int .i64 k ∧ ov = vo ∧ Hid (OwnPairs 27 wr (w.heap.size + 1) vo (L k)) ∧ wr.cell? ⟨w.heap.size, 0, none⟩ = some (.int .i64 x1) ∧ wr.cell? ⟨w.heap.size, 1, none⟩ = some (.int .i64 y1) ∧ Below w.heap.size w wr ∧ w.heap.size + 1 ≤ wr.heap.size ∧ Hid (allOn (L k) = true)) (fun _ i _ => N - (intOf i).toNat)
  case atStart => exact ⟨0, _, Nat.zero_le _, rfl, rfl, Lib.hid (by rw [HL0.out]; exact own_nil _ _ _), d0, d1, hbw, (by first | omega | (simp; done) | (simp; omega)), Lib.hid (by rw [HL0.out]; rfl)⟩
  case round =>
    clear d0 d1 hbw
    obtain ⟨k, vo, hk, rfl, hv, HOWN, d0, d1, hbr, hws, HALL⟩ := hrel
    replace hv := hv.symm
    subst hv
    have hsr := hbr.size
    by_cases hlt : k < N
    · have hkk : (k : Int) ≤ (N : Int) - 1 := by omega
      have hT := arcT_bound (n := (N : Int)) (k := (k : Int)) t1 t2 t3 t4 (by omega) (by omega) hkk
      have hdef : arcT fr tu N (k : Int) = fr + ((k : Int) * (tu - fr)) / ((N : Int) - 1) := rfl
      have hls := HLS.out k
      have hlf := HLF.out k
      have hly := HLY.out k
      have hlln := HLN.out k
      have hm0 : -4000000 ≤ (k : Int) * (tu - fr) ∧ (k : Int) * (tu - fr) ≤ 4000000 := by
        have a1 := prodN (a := tu - fr) (k := k) (A := 2800) (by omega) (by omega) (show k ≤ 40 by omega)
        omega
      obtain ⟨T, hTT⟩ : ∃ T, T = arcT fr tu N (k : Int) := ⟨_, rfl⟩
      rw [← hTT] at hT hdef hls hlf hly
      obtain ⟨T1, T2⟩ := hT
      obtain ⟨m, hm⟩ : ∃ m, m = (k : Int) * (tu - fr) := ⟨_, rfl⟩
      rw [← hm] at hdef hm0
      have v3 : IntKind.i64.wrap ((k : Int) * (tu - fr)) = m := by rw [hm]; rw [hm] at hm0; exact IntWalk.i64_in _ (by omega)
      obtain ⟨q, hq⟩ : ∃ q, q = m / ((N : Int) - 1) := ⟨_, rfl⟩
      have HFQ := Lib.hid (fun W => arFloor_any m ((N : Int) - 1) hm0.1 hm0.2 (by omega) W)
      rw [← hq] at HFQ hdef
      have v4 : IntKind.i64.wrap (fr + q) = T := by rw [← hdef]; exact IntWalk.i64_in _ (by omega)
      have hYb := arcY_bound r1 r2 T1 T2
      have hoa := fun W => HKA.out T W
      have hkt := HKT.out T (inB_iff.2 ⟨T1, T2⟩)
      rw [hkt] at hoa
      obtain ⟨X, hX⟩ : ∃ X, X = x1 + T := ⟨_, rfl⟩
      obtain ⟨Y, hY⟩ : ∃ Y, Y = y1 + arcY r T := ⟨_, rfl⟩
      rw [← hX, ← hY] at hls hlf hly hoa
      obtain ⟨PX, hPX⟩ : ∃ z, z = guardI (onField X Y) X := ⟨_, rfl⟩
      obtain ⟨PY, hPY⟩ : ∃ z, z = guardI (onField X Y) Y := ⟨_, rfl⟩
      obtain ⟨ok, hok⟩ : ∃ z, z = onField X Y := ⟨_, rfl⟩
      rw [← hPX, ← hPY, ← hok] at hoa
      rw [← hok] at hlf hly hPX hPY
      have HOA := Lib.hid hoa
      have HST := Lib.hid hls
      have HLF2 := Lib.hid hlf
      have HLY2 := Lib.hid hly
      have HPX := Lib.hid hPX
      have HPY := Lib.hid hPY
      have HLLN := Lib.hid hlln
      clear hls hlf hly hdef hTT hm hm0 hq hX hY hYb hlln hoa hkt hPX hPY hok
      have n7 : w.heap.size < wr.heap.size := by omega
      have n8 : ¬ w.heap.size = wr.heap.size := by omega
      have n9 : ¬ wr.heap.size = w.heap.size := by omega
      go_upto_region 7 with fail
      go_cut [14, 15] (fun sa sb wx => ∃ g : Nat, sa = .pointer (some ⟨g, 0, none⟩) ∧ sb = .bool ok ∧ wr.heap.size ≤ g ∧ g < wx.heap.size ∧ wx.cell? ⟨g, 0, none⟩ = some (.int .i64 PX) ∧ wx.cell? ⟨g, 1, none⟩ = some (.int .i64 PY) ∧ Below wr.heap.size wr wx)
      case first =>
        go_region_held3 (fun w' => w'.cell? ⟨w.heap.size, 0, none⟩ = some (.int .i64 x1) ∧ w'.cell? ⟨w.heap.size, 1, none⟩ = some (.int .i64 y1)) (refine ⟨?_, ?_⟩ <;> first | (go_keep; done) | (simp [*, World.cell?_alloc_past, World.cell?_setCell_far]; done) | (simp [*, World.cell?_alloc_past, World.cell?_alloc_at, World.cell?_setCell_far]; done) | (go_simp; done))
          (first | (go_at_call 49; ((with_reducible refine (HFQ.out _).mono ?_); rintro e w' ⟨rfl, rfl⟩)) | (go_at_call 15; ((with_reducible refine (HOA.out _).mono ?_); rintro e w3 ⟨rfl, hb3⟩; have hs3 := hb3.size; (try simp at hs3); have q0 : w3.cell? ⟨w.heap.size, 0, none⟩ = _ := hb3.cell (p := ⟨w.heap.size, 0, none⟩) (by first | omega | (simp; done) | (simp; omega)); have q1 : w3.cell? ⟨w.heap.size, 1, none⟩ = _ := hb3.cell (p := ⟨w.heap.size, 1, none⟩) (by first | omega | (simp; done) | (simp; omega)); have y0 : w.heap.size < w3.heap.size := (by omega); have y1' : ¬ w.heap.size = w3.heap.size := (by omega); have y2' : ¬ w3.heap.size = w.heap.size := (by omega); have hc3 := fun b o h => hb3.cell (p := ⟨b, o, none⟩) h; have hf3 := fun b o h => hb3.frozen (p := ⟨b, o, none⟩) h)))
        all_goals (go_wp2_with fail; go_meet; refine ⟨_, rfl, rfl, ?_, ?_, ?_, ?_, (by repeat (first | exact Below.refl _ _ | assumption | refine Below.drew ?_ | refine below_drewN ?_ _ | refine Below.alloc ?_ (by first | omega | (simp; done) | (simp; omega)) _ | refine Below.setCell ?_ (by first | omega | (simp; done) | (simp; omega)) _ | refine Below.trans ?_ (Below.mono (by assumption) (by first | omega | (simp; done) | (simp; omega)))))⟩; all_goals first | (simp [*, World.cell?_alloc_past]; done) | (go_simp; done) | (omega; done) | (simp; done) | (simp; omega))
      case rest =>
        obtain ⟨g, rfl, rfl, g1, g2, g3, g4, hbx⟩ := hcut
        obtain ⟨wx, rfl⟩ : ∃ x, x = wc := ⟨_, rfl⟩
        have hsx := hbx.size
        have q0 : wx.cell? ⟨w.heap.size, 0, none⟩ = some (.int .i64 x1) := (hbx.cell (p := ⟨w.heap.size, 0, none⟩) n7).trans d0
        have q1 : wx.cell? ⟨w.heap.size, 1, none⟩ = some (.int .i64 y1) := (hbx.cell (p := ⟨w.heap.size, 1, none⟩) n7).trans d1
        have hb33 : Below w.heap.size w wx := Below.trans hbr (Below.mono hbx hsr)
        cases ok
        · have HF := Lib.hid (HLF2.out rfl hlt)
          go_wp2_with fail
          go_ret2
          exact ⟨_, by rw [HF.out]; rfl, by rw [onIf_no HF.out]; exact own_nil _ _ _, (by repeat (first | exact Below.refl _ _ | assumption | refine Below.drew ?_ | refine below_drewN ?_ _ | refine Below.alloc ?_ (by first | omega | (simp; done) | (simp; omega)) _ | refine Below.setCell ?_ (by first | omega | (simp; done) | (simp; omega)) _ | refine Below.trans ?_ (Below.mono (by assumption) (by first | omega | (simp; done) | (simp; omega)))))⟩
        · have e1 : PX = X := HPX.out
          have e2 : PY = Y := HPY.out
          subst e1 e2
          have HALL2 := Lib.hid (show allOn (L (k + 1)) = true by rw [HLY2.out, HALL.out]; rfl)
          have hlln := HLLN.out
          obtain ⟨acc, hacc⟩ : ∃ acc, acc = L k := ⟨_, rfl⟩
          rw [← hacc] at HOWN HST hlln
          have hal9 : acc.length ≤ 40 := by omega
          have HOL := Lib.hid (World.ownsRow.lt HOWN.out)
          have HOWN2 := Lib.hid (fun (W : World) (hb : Below wr.heap.size wr W) => own_below HOWN.out hb)
          clear hacc hlln HALL HLY2 HLF2 HPX HPY
          go_wp2_with (at_builtin; refine wpList_append_lies _ rfl _ _ 33 rfl (w.heap.size + 1) 27 j0 (.agg #[.int .i64 0, .int .i64 0]) 2 16 Try.underlying33 HI.out HZ0.out HZ1.out HZ2.out rfl (by omega) vo (acc.length) (pairV acc) rfl (HOWN2.out _ (Below.alloc hbx hbx.size _)) ⟨_, 0, none⟩ 1 1 [.int .i64 (PX), .int .i64 (PY)] rfl rfl (World.news_of_block (cs := #[.int .i64 (PX), .int .i64 (PY)]) (t := 27) (fr := (0, 0)) (heap_alloc_new _ _)) (by simp [Value.oneCell']) (by omega) (by unfold maxLen; omega) (by omega) (by simp; omega) _ rfl ?_; intro gg cap5 w5 hown5 hgrow5 hat5 hlt5)
          have hne : ∀ b, b ≤ w.heap.size → some b ≠ vo.ownBlock := fun b hb e => by have := HOL.out b e.symm; omega
          have f0 : w5.cell? ⟨w.heap.size, 0, none⟩ = some (.int .i64 x1) := (hgrow5.cell_far ⟨w.heap.size, 0, none⟩ (by first | omega | (simp; done) | (simp; omega)) (hne _ (Nat.le_refl _))).trans ((World.cell?_alloc_past _ _ _ (by omega)).trans q0)
          have f1 : w5.cell? ⟨w.heap.size, 1, none⟩ = some (.int .i64 y1) := (hgrow5.cell_far ⟨w.heap.size, 1, none⟩ (by first | omega | (simp; done) | (simp; omega)) (hne _ (Nat.le_refl _))).trans ((World.cell?_alloc_past _ _ _ (by omega)).trans q1)
          have hb5 : Below w.heap.size w w5 := Below.grown (Below.alloc hb33 hb33.size _) hgrow5 (by first | (simp; omega) | omega) (fun q hq => by have := HOL.out q hq; omega)
          have hown6 : OwnPairs 27 w5 (w.heap.size + 1) (.slice (some ⟨gg, 0, none⟩) (acc.length + 1) cap5) (L (k + 1)) := by rw [HST.out, OwnPairs, pairV_append, List.length_append]; simpa [pairV] using hown5
          have HO6 := Lib.hid hown6
          have hs6 := hgrow5.size
          (try simp at hs6)
          clear hat5 hgrow5 hown5 hown6 hne q0 q1
          have hs5 := hb5.size
          go_wp2
          go_roundw
          case rel => exact ⟨k + 1, _, by omega, by go_num, rfl, HO6, f0, f1, hb5, by omega, HALL2⟩
          case measure => simp [intOf]; omega
    · obtain rfl : k = N := by omega
      go_wp2
      go_ret2
      exact ⟨_, by rw [HALL.out]; rfl, by rw [onIf_yes HALL.out]; exact own_mono HOWN.out (by omega), (by repeat (first | exact Below.refl _ _ | assumption | refine Below.drew ?_ | refine below_drewN ?_ _ | refine Below.alloc ?_ (by first | omega | (simp; done) | (simp; omega)) _ | refine Below.setCell ?_ (by first | omega | (simp; done) | (simp; omega)) _ | refine Below.trans ?_ (Below.mono (by assumption) (by first | omega | (simp; done) | (simp; omega)))))⟩

theorem specArc_any (x1 y1 r fr tu n : Int) (w : World) :
    Calls Try.prog 19 #[.agg #[.int .i64 x1, .int .i64 y1], .int .i64 r, .int .i64 fr, .int .i64 tu, .int .i64 n] w fun e w' => ∃ v, e = .returned (.tuple #[v, .bool (arcG x1 y1 r fr tu n && allOn (arcL x1 y1 r fr tu n))]) ∧ OwnPairs 27 w' w.heap.size v (onIf (arcL x1 y1 r fr tu n)) ∧ Below w.heap.size w w' := by
  cases hk : arcG x1 y1 r fr tu n
  · have e : arcL x1 y1 r fr tu n = [] := by unfold arcL; rw [hk]; rfl
    rw [e]
    exact (specArc_no x1 y1 r fr tu n hk w).mono fun e w' ⟨he, hb⟩ => ⟨_, he, own_nil _ _ _, hb⟩
  · have e : arcL x1 y1 r fr tu n = arcTo x1 y1 r fr tu n n.toNat := by unfold arcL; rw [if_pos hk]
    rw [e]
    unfold arcG at hk
    rw [Bool.and_eq_true, Bool.and_eq_true, Bool.and_eq_true] at hk
    obtain ⟨⟨⟨g1, g2⟩, g3⟩, g4⟩ := hk
    obtain ⟨n1, n2⟩ := inB_iff.1 g4
    have h := specArc_yes x1 y1 r fr tu n.toNat g1 g2 g3 (by omega) (by omega) w
    rw [Int.toNat_of_nonneg (by omega)] at h
    exact h

theorem arc_any (x1 y1 r fr tu n : Int) (w : World) :
    Calls Try.prog 20 #[.agg #[.int .i64 x1, .int .i64 y1], .int .i64 r, .int .i64 fr, .int .i64 tu, .int .i64 n] w fun e w' => ∃ v, e = .returned (.tuple #[v, .bool (arcG x1 y1 r fr tu n && allOn (arcL x1 y1 r fr tu n))]) ∧ OwnPairs 27 w' w.heap.size v (onIf (arcL x1 y1 r fr tu n)) ∧ Below w.heap.size w w' := by
  cases hk : arcG x1 y1 r fr tu n
  · have e : arcL x1 y1 r fr tu n = [] := by unfold arcL; rw [hk]; rfl
    rw [e]
    exact (arc_no x1 y1 r fr tu n hk w).mono fun e w' ⟨he, hb⟩ => ⟨_, he, own_nil _ _ _, hb⟩
  · have e : arcL x1 y1 r fr tu n = arcTo x1 y1 r fr tu n n.toNat := by unfold arcL; rw [if_pos hk]
    rw [e]
    unfold arcG at hk
    rw [Bool.and_eq_true, Bool.and_eq_true, Bool.and_eq_true] at hk
    obtain ⟨⟨⟨g1, g2⟩, g3⟩, g4⟩ := hk
    obtain ⟨n1, n2⟩ := inB_iff.1 g4
    have h := arc_yes x1 y1 r fr tu n.toNat g1 g2 g3 (by omega) (by omega) w
    rw [Int.toNat_of_nonneg (by omega)] at h
    exact h

end Go.Proofs.Ytjdpbjpeohdoiaa
