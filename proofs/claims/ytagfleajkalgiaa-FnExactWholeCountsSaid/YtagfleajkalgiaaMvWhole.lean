/- The counts at which a move is at whole eighths, both sides. Conditions: those written in each theorem. -/
import Derived.Test.YtagfleajkalgiaaMvRnd
import Derived.Test.YtagfleajkalgiaaInts
import Derived.Deep.RegionHeld3
import Derived.Deep.DeepCutAuto
import Derived.Deep.DrawnRows
import Derived.IntWalk
namespace Go.Proofs.Ytagfleajkalgiaa
open Go.RowKit


attribute [local go_sem ↓] Go.wp_at_zero Go.wp_at_succ

/-- Is the place after k counts whole? -/
def whK (x1 y1 x2 y2 n : Int) (k : Nat) : Bool := wh (px x1 x2 n k) n && wh (px y1 y2 n k) n
/-- The whole counts below k. -/
def wcs (x1 y1 x2 y2 n : Int) : Nat → List Int
  | 0 => []
  | k + 1 => if whK x1 y1 x2 y2 n k then wcs x1 y1 x2 y2 n k ++ [(k : Int)] else wcs x1 y1 x2 y2 n k
theorem wcs_length (x1 y1 x2 y2 n : Int) : ∀ k, (wcs x1 y1 x2 y2 n k).length ≤ k
  | 0 => Nat.le_refl _
  | k + 1 => by
    have := wcs_length x1 y1 x2 y2 n k
    unfold wcs
    split <;> simp <;> omega
theorem wcs_yes {x1 y1 x2 y2 n : Int} {k : Nat} (h : whK x1 y1 x2 y2 n k = true) : wcs x1 y1 x2 y2 n (k + 1) = wcs x1 y1 x2 y2 n k ++ [(k : Int)] := by show (if _ then _ else _) = _; rw [if_pos h]
theorem wcs_no {x1 y1 x2 y2 n : Int} {k : Nat} (h : whK x1 y1 x2 y2 n k = false) : wcs x1 y1 x2 y2 n (k + 1) = wcs x1 y1 x2 y2 n k := by show (if _ then _ else _) = _; rw [if_neg (by rw [h]; simp)]
/-- WholeCounts' list. -/
def wholeL (x1 y1 x2 y2 n : Int) : List Int := if isMv x1 y1 x2 y2 n then wcs x1 y1 x2 y2 n (n.toNat + 1) else []
theorem wholeL_length (x1 y1 x2 y2 n : Int) : (wholeL x1 y1 x2 y2 n).length ≤ 65 := by
  unfold wholeL
  split
  · rename_i h
    have := wcs_length x1 y1 x2 y2 n (n.toNat + 1)
    have := isMv_iff.1 h
    omega
  · simp
def WholePost (x1 y1 x2 y2 n : Int) (w : World) (e : Ending) (w' : World) : Prop :=
  ∃ v, e = .returned (.tuple #[v, .bool (isMv x1 y1 x2 y2 n)]) ∧ OwnInts w' w.heap.size v (wholeL x1 y1 x2 y2 n) ∧ Below w.heap.size w w'

set_option maxHeartbeats 1000000 in
theorem specWhole_no (x1 y1 x2 y2 n : Int) (h1 : isMv x1 y1 x2 y2 n = false) (w : World) :
    Calls Try.prog 29 #[.agg #[.int .i64 x1, .int .i64 y1, .int .i64 x2, .int .i64 y2, .int .i64 n]] w fun e w' => e = .returned (.tuple #[.slice none 0 0, .bool false]) ∧ Below w.heap.size w w' := by
  obtain ⟨q1, q2, q3, q4, q5, q6, q7⟩ := nadd
  have HM := Lib.hid (fun W => mvGood_any x1 y1 x2 y2 n W)
  rw [h1] at HM
  clear h1
  all_goals
    go_enter Try.func29, Try.ntmps29
    go_wp2_with (first | (go_at_call 36; ((with_reducible refine (HM.out _).mono ?_); rintro e w1 ⟨rfl, hb1⟩; have hs1 := hb1.size; (try simp at hs1); (first | have hk4 := call_facts hl3 hb1 (by simp) | skip); (first | have hk3 := call_facts hl2 hb1 (by simp) | skip); (first | have hk2 := call_facts hl1 hb1 (by simp) | skip); have hk1 := call_facts (fun b h => h) hb1 (Nat.le_refl _); (first | have hl4 := hk4.1 | skip); (first | have hl3 := hk3.1 | skip); (first | have hl2 := hk2.1 | skip); have hl1 := hk1.1)))
    go_ret2
    exact ⟨rfl, (by repeat (first | exact Below.refl _ _ | assumption | refine Below.drew ?_ | refine below_drewN ?_ _ | refine Below.alloc ?_ (by first | omega | (simp; done) | (simp; omega)) _ | refine Below.setCell ?_ (by first | omega | (simp; done) | (simp; omega)) _ | refine Below.trans ?_ (Below.mono (by assumption) (by first | omega | (simp; done) | (simp; omega)))))⟩

set_option maxHeartbeats 4000000 in
theorem specWhole_yes (x1 y1 x2 y2 : Int) (N : Nat) (h1 : isMv x1 y1 x2 y2 (N : Int) = true) (w : World) :
    Calls Try.prog 29 #[.agg #[.int .i64 x1, .int .i64 y1, .int .i64 x2, .int .i64 y2, .int .i64 (N : Int)]] w fun e w' => ∃ v, e = .returned (.tuple #[v, .bool true]) ∧ OwnInts w' w.heap.size v (wcs x1 y1 x2 y2 (N : Int) (N + 1)) ∧ Below w.heap.size w w' := by
  obtain ⟨_, _, _, hN⟩ := isMv_iff.1 h1
  have HWK := Lib.hid (fun (k : Nat) (hk : k ≤ N) W => mvWhole_any x1 y1 x2 y2 (N : Int) (k : Int) h1 (by omega) (by omega) W)
  obtain ⟨q1, q2, q3, q4, q5, q6, q7⟩ := nadd
  obtain ⟨j0, hi, hz0, hz1, hz2⟩ := info_parts Try.infoInt
  have HI := Lib.hid hi
  have HZ0 := Lib.hid hz0
  have HZ1 := Lib.hid hz1
  have HZ2 := Lib.hid hz2
  clear hi hz0 hz1 hz2
  have HM := Lib.hid (fun W => mvGood_any x1 y1 x2 y2 (N : Int) W)
  rw [h1] at HM
  clear h1
  have v1 : IntKind.i64.wrap ((N : Int) + 1) = (N : Int) + 1 := IntWalk.i64_in _ (by omega)
  go_enter Try.func29, Try.ntmps29
  go_wp2_with (go_at_call 36; ((with_reducible refine (HM.out _).mono ?_); rintro e w1 ⟨rfl, hb1⟩; have hs1 := hb1.size; (try simp at hs1); (first | have hk4 := call_facts hl3 hb1 (by simp) | skip); (first | have hk3 := call_facts hl2 hb1 (by simp) | skip); (first | have hk2 := call_facts hl1 hb1 (by simp) | skip); have hk1 := call_facts (fun b h => h) hb1 (Nat.le_refl _); (first | have hl4 := hk4.1 | skip); (first | have hl3 := hk3.1 | skip); (first | have hl2 := hk2.1 | skip); have hl1 := hk1.1))
  go_loopw [4, 5] (fun v i wr => ∃ k : Nat, k ≤ N + 1 ∧ i = .int .i64 k ∧ OwnInts wr (w.heap.size + 1) v (wcs x1 y1 x2 y2 (N : Int) k) ∧ wr.cell? ⟨w.heap.size, 0, none⟩ = some (.int .i64 x1) ∧ wr.cell? ⟨w.heap.size, 1, none⟩ = some (.int .i64 y1) ∧ wr.cell? ⟨w.heap.size, 2, none⟩ = some (.int .i64 x2) ∧ wr.cell? ⟨w.heap.size, 3, none⟩ = some (.int .i64 y2) ∧ wr.cell? ⟨w.heap.size, 4, none⟩ = some (.int .i64 (N : Int)) ∧ Below w.heap.size w wr ∧ w.heap.size < wr.heap.size) (fun _ i _ => N + 1 - (intOf i).toNat)
  case atStart => exact ⟨0, Nat.zero_le _, rfl, World.ownsRow_nil _ _ _ _, by go_simp, by go_simp, by go_simp, by go_simp, by go_simp, (by repeat (first | exact Below.refl _ _ | assumption | refine Below.drew ?_ | refine below_drewN ?_ _ | refine Below.alloc ?_ (by first | omega | (simp; done) | (simp; omega)) _ | refine Below.setCell ?_ (by first | omega | (simp; done) | (simp; omega)) _ | refine Below.trans ?_ (Below.mono (by assumption) (by first | omega | (simp; done) | (simp; omega))))), (by first | omega | (simp; done) | (simp; omega))⟩
  case round =>
    obtain ⟨k, hk, rfl, hown, c0, c1, c2, c3, c4, hbr, hz⟩ := hrel
    have hsr := hbr.size
    (repeat clear hl1); (repeat clear hl2); (repeat clear hl3); (repeat clear hl4); (repeat clear hk1); (repeat clear hk2); (repeat clear hk3); (repeat clear hk4); (repeat clear hcn); (repeat clear hfn); (repeat clear hln); (repeat clear hz0); (repeat clear hz1); (repeat clear hz2); (repeat clear hs1); (repeat clear hb1)
    by_cases hlt : k < N + 1
    · have hwl := wcs_length x1 y1 x2 y2 (N : Int) k
      have i0 : (0 : Int) ≤ (k : Int) := by omega
      have i1 : (k : Int) < (N : Int) + 1 := by omega
      have i2 : (k : Int) ≤ (N : Int) := by omega
      have hlr : ∀ b, b < wr.heap.size → b < wr.heap.size := fun _ h => h
      have HK := Lib.hid (HWK.out k (by omega))
      cases hc : whK x1 y1 x2 y2 (N : Int) k
      all_goals
        have hc2 := hc
        unfold whK at hc2
        rw [hc2] at HK
        clear hc2
      · have hnb := wcs_no hc
        have Hnb := Lib.hid hnb
        clear hnb hc
        go_wp2_with (go_at_call 49; ((with_reducible refine (HK.out _).mono ?_); rintro e w1 ⟨rfl, hb1⟩; have hs1 := hb1.size; (try simp at hs1); (first | have hk4 := call_facts hl3 hb1 (by simp) | skip); (first | have hk3 := call_facts hl2 hb1 (by simp) | skip); (first | have hk2 := call_facts hl1 hb1 (by simp) | skip); have hk1 := call_facts (fun b h => h) hb1 (Nat.le_refl _); (first | have hl4 := hk4.1 | skip); (first | have hl3 := hk3.1 | skip); (first | have hl2 := hk2.1 | skip); have hl1 := hk1.1))
        go_roundw
        case rel => exact ⟨k + 1, by omega, by go_num, by rw [Hnb.out]; exact own_below hown hb1, by go_simp, by go_simp, by go_simp, by go_simp, by go_simp, (by repeat (first | exact Below.refl _ _ | assumption | refine Below.drew ?_ | refine below_drewN ?_ _ | refine Below.alloc ?_ (by first | omega | (simp; done) | (simp; omega)) _ | refine Below.setCell ?_ (by first | omega | (simp; done) | (simp; omega)) _ | refine Below.trans ?_ (Below.mono (by assumption) (by first | omega | (simp; done) | (simp; omega))))), (by first | omega | (simp; done) | (simp; omega))⟩
        case measure => simp [intOf]; omega
      · have hnb := wcs_yes hc
        have Hnb := Lib.hid hnb
        clear hnb hc
        go_wp2_with (first | (at_builtin; refine wpList_append_own _ rfl _ _ 46 rfl (w.heap.size + 1) 3 j0 (.int .i64 0) 1 8 Try.underlying46 HI.out HZ0.out HZ1.out HZ2.out rfl (by decide) _ _ _ rfl ((own_below hown hb1).alloc _) ⟨w1.heap.size, 0, none⟩ 1 1 [.int .i64 (k : Int)] rfl rfl ?c1 ?c2 ?c3 ?c4 ?c5 ?_) | (go_at_call 49; ((with_reducible refine (HK.out _).mono ?_); rintro e w1 ⟨rfl, hb1⟩; have hs1 := hb1.size; (try simp at hs1); (first | have hk4 := call_facts hl3 hb1 (by simp) | skip); (first | have hk3 := call_facts hl2 hb1 (by simp) | skip); (first | have hk2 := call_facts hl1 hb1 (by simp) | skip); have hk1 := call_facts (fun b h => h) hb1 (Nat.le_refl _); (first | have hl4 := hk4.1 | skip); (first | have hl3 := hk3.1 | skip); (first | have hl2 := hk2.1 | skip); have hl1 := hk1.1)))
        case c1 =>
          intro j u hj
          match j, hj with
          | 0, hj => simp at hj; subst hj; simp [Addr.add]
        case c2 => intro u hu; simp at hu; subst hu; rfl
        case c3 => unfold maxLen; omega
        case c4 => omega
        case c5 => simp; omega
        intro v' w2 hown' hgrow _
        have hst := own_stepI (w := w) (base := w.heap.size) (by repeat (first | exact Below.refl _ _ | assumption | refine Below.drew ?_ | refine below_drewN ?_ _ | refine Below.alloc ?_ (by first | omega | (simp; done) | (simp; omega)) _ | refine Below.setCell ?_ (by first | omega | (simp; done) | (simp; omega)) _ | refine Below.trans ?_ (Below.mono (by assumption) (by first | omega | (simp; done) | (simp; omega))))) (by first | omega | (simp; done) | (simp; omega)) (by omega) (own_below hown hb1) hown' hgrow
        obtain ⟨ho2, hb2, hc2, hz2⟩ := hst
        have z0 := hc2 _ _ _ (by omega) (show w1.cell? ⟨w.heap.size, 0, none⟩ = some (.int .i64 x1) from (hb1.cell (p := ⟨w.heap.size, 0, none⟩) (by first | omega | (simp; done) | (simp; omega))).trans c0)
        have z1 := hc2 _ _ _ (by omega) (show w1.cell? ⟨w.heap.size, 1, none⟩ = some (.int .i64 y1) from (hb1.cell (p := ⟨w.heap.size, 1, none⟩) (by first | omega | (simp; done) | (simp; omega))).trans c1)
        have z2 := hc2 _ _ _ (by omega) (show w1.cell? ⟨w.heap.size, 2, none⟩ = some (.int .i64 x2) from (hb1.cell (p := ⟨w.heap.size, 2, none⟩) (by first | omega | (simp; done) | (simp; omega))).trans c2)
        have z3 := hc2 _ _ _ (by omega) (show w1.cell? ⟨w.heap.size, 3, none⟩ = some (.int .i64 y2) from (hb1.cell (p := ⟨w.heap.size, 3, none⟩) (by first | omega | (simp; done) | (simp; omega))).trans c3)
        have z4 := hc2 _ _ _ (by omega) (show w1.cell? ⟨w.heap.size, 4, none⟩ = some (.int .i64 (N : Int)) from (hb1.cell (p := ⟨w.heap.size, 4, none⟩) (by first | omega | (simp; done) | (simp; omega))).trans c4)
        have zz : w.heap.size < w2.heap.size := by omega
        clear hown' hgrow hc2 hown
        (repeat clear hl1); (repeat clear hl2); (repeat clear hl3); (repeat clear hl4); (repeat clear hk1); (repeat clear hk2); (repeat clear hk3); (repeat clear hk4); (repeat clear hcn); (repeat clear hfn); (repeat clear hln); (repeat clear hz0); (repeat clear hz1); (repeat clear hz2); (repeat clear hs1); (repeat clear hb1)
        go_wp2
        go_roundw
        case rel => exact ⟨k + 1, by omega, by go_num, by rw [Hnb.out]; exact ho2, z0, z1, z2, z3, z4, hb2, zz⟩
        case measure => simp [intOf]; omega
    · obtain rfl : k = N + 1 := by omega
      have i3 : ¬ (((N + 1 : Nat) : Int) ≤ (N : Int)) := by omega
      have i4 : ¬ (((N + 1 : Nat) : Int) < (N : Int) + 1) := by omega
      go_wp2
      go_ret2
      exact ⟨_, rfl, own_mono hown (by omega), (by repeat (first | exact Below.refl _ _ | assumption | refine Below.drew ?_ | refine below_drewN ?_ _ | refine Below.alloc ?_ (by first | omega | (simp; done) | (simp; omega)) _ | refine Below.setCell ?_ (by first | omega | (simp; done) | (simp; omega)) _ | refine Below.trans ?_ (Below.mono (by assumption) (by first | omega | (simp; done) | (simp; omega)))))⟩

theorem specWhole_any (x1 y1 x2 y2 n : Int) (w : World) :
    Calls Try.prog 29 #[.agg #[.int .i64 x1, .int .i64 y1, .int .i64 x2, .int .i64 y2, .int .i64 n]] w (WholePost x1 y1 x2 y2 n w) := by
  cases hv : isMv x1 y1 x2 y2 n
  · refine (specWhole_no x1 y1 x2 y2 n hv w).mono fun e w' ⟨he, hb⟩ => ⟨.slice none 0 0, by rw [hv]; exact he, ?_, hb⟩
    have e0 : wholeL x1 y1 x2 y2 n = [] := by unfold wholeL; rw [hv]; rfl
    rw [e0]
    exact World.ownsRow_nil _ _ _ _
  · obtain ⟨_, _, n0, n1⟩ := isMv_iff.1 hv
    obtain ⟨N, rfl⟩ : ∃ N : Nat, n = (N : Int) := ⟨n.toNat, by omega⟩
    refine (specWhole_yes x1 y1 x2 y2 N hv w).mono fun e w' ⟨v, he, ho, hb⟩ => ⟨v, by rw [hv]; exact he, ?_, hb⟩
    have e0 : wholeL x1 y1 x2 y2 (N : Int) = wcs x1 y1 x2 y2 (N : Int) (N + 1) := by unfold wholeL; rw [hv, if_pos rfl, Int.toNat_natCast]
    rw [e0]
    exact ho

set_option maxHeartbeats 1000000 in
theorem whole_no (x1 y1 x2 y2 n : Int) (h1 : isMv x1 y1 x2 y2 n = false) (w : World) :
    Calls Try.prog 30 #[.agg #[.int .i64 x1, .int .i64 y1, .int .i64 x2, .int .i64 y2, .int .i64 n]] w fun e w' => e = .returned (.tuple #[.slice none 0 0, .bool false]) ∧ Below w.heap.size w w' := by
  obtain ⟨q1, q2, q3, q4, q5, q6, q7⟩ := nadd
  have HM := Lib.hid (fun W => isMove_any x1 y1 x2 y2 n W)
  rw [h1] at HM
  clear h1
  all_goals
    go_enter Try.func30, Try.ntmps30
    go_wp2_with (first | (go_at_call 14; ((with_reducible refine (HM.out _).mono ?_); rintro e w1 ⟨rfl, hb1⟩; have hs1 := hb1.size; (try simp at hs1); (first | have hk4 := call_facts hl3 hb1 (by simp) | skip); (first | have hk3 := call_facts hl2 hb1 (by simp) | skip); (first | have hk2 := call_facts hl1 hb1 (by simp) | skip); have hk1 := call_facts (fun b h => h) hb1 (Nat.le_refl _); (first | have hl4 := hk4.1 | skip); (first | have hl3 := hk3.1 | skip); (first | have hl2 := hk2.1 | skip); have hl1 := hk1.1)))
    go_ret2
    exact ⟨rfl, (by repeat (first | exact Below.refl _ _ | assumption | refine Below.drew ?_ | refine below_drewN ?_ _ | refine Below.alloc ?_ (by first | omega | (simp; done) | (simp; omega)) _ | refine Below.setCell ?_ (by first | omega | (simp; done) | (simp; omega)) _ | refine Below.trans ?_ (Below.mono (by assumption) (by first | omega | (simp; done) | (simp; omega)))))⟩

set_option maxHeartbeats 4000000 in
theorem whole_yes (x1 y1 x2 y2 : Int) (N : Nat) (h1 : isMv x1 y1 x2 y2 (N : Int) = true) (w : World) :
    Calls Try.prog 30 #[.agg #[.int .i64 x1, .int .i64 y1, .int .i64 x2, .int .i64 y2, .int .i64 (N : Int)]] w fun e w' => ∃ v, e = .returned (.tuple #[v, .bool true]) ∧ OwnInts w' w.heap.size v (wcs x1 y1 x2 y2 (N : Int) (N + 1)) ∧ Below w.heap.size w w' := by
  obtain ⟨_, _, _, hN⟩ := isMv_iff.1 h1
  have HWK : Hid (∀ (k : Nat), k ≤ N → ∃ U V : Int, ∀ W, Calls Try.prog 50 #[.agg #[.int .i64 x1, .int .i64 y1, .int .i64 x2, .int .i64 y2, .int .i64 (N : Int)], .int .i64 (k : Int)] W fun e w' => e = .returned (.tuple #[.agg #[.int .i64 U, .int .i64 V], .bool (whK x1 y1 x2 y2 (N : Int) k)]) ∧ Below W.heap.size W w') := Lib.hid (by
    intro k hk
    have hp : plOk x1 y1 x2 y2 (N : Int) (k : Int) = true := plOk_iff.2 ⟨h1, by omega, by omega⟩
    have h := fun W => wholeAt_any x1 y1 x2 y2 (N : Int) (k : Int) W
    rw [hp, Bool.true_and] at h
    exact ⟨_, _, h⟩)
  obtain ⟨q1, q2, q3, q4, q5, q6, q7⟩ := nadd
  obtain ⟨j0, hi, hz0, hz1, hz2⟩ := info_parts Try.infoInt
  have HI := Lib.hid hi
  have HZ0 := Lib.hid hz0
  have HZ1 := Lib.hid hz1
  have HZ2 := Lib.hid hz2
  clear hi hz0 hz1 hz2
  have HM := Lib.hid (fun W => isMove_any x1 y1 x2 y2 (N : Int) W)
  rw [h1] at HM
  clear h1
  have v1 : IntKind.i64.wrap ((N : Int) + 1) = (N : Int) + 1 := IntWalk.i64_in _ (by omega)
  go_enter Try.func30, Try.ntmps30
  go_wp2_with (go_at_call 14; ((with_reducible refine (HM.out _).mono ?_); rintro e w1 ⟨rfl, hb1⟩; have hs1 := hb1.size; (try simp at hs1); (first | have hk4 := call_facts hl3 hb1 (by simp) | skip); (first | have hk3 := call_facts hl2 hb1 (by simp) | skip); (first | have hk2 := call_facts hl1 hb1 (by simp) | skip); have hk1 := call_facts (fun b h => h) hb1 (Nat.le_refl _); (first | have hl4 := hk4.1 | skip); (first | have hl3 := hk3.1 | skip); (first | have hl2 := hk2.1 | skip); have hl1 := hk1.1))
  go_loopw [4, 14] (fun v i wr => ∃ k : Nat, k ≤ N + 1 ∧ i = .int .i64 k ∧ OwnInts wr (w.heap.size + 1) v (wcs x1 y1 x2 y2 (N : Int) k) ∧ wr.cell? ⟨w.heap.size, 0, none⟩ = some (.int .i64 x1) ∧ wr.cell? ⟨w.heap.size, 1, none⟩ = some (.int .i64 y1) ∧ wr.cell? ⟨w.heap.size, 2, none⟩ = some (.int .i64 x2) ∧ wr.cell? ⟨w.heap.size, 3, none⟩ = some (.int .i64 y2) ∧ wr.cell? ⟨w.heap.size, 4, none⟩ = some (.int .i64 (N : Int)) ∧ Below w.heap.size w wr ∧ w.heap.size < wr.heap.size) (fun _ i _ => N + 1 - (intOf i).toNat)
  case atStart => exact ⟨0, Nat.zero_le _, rfl, World.ownsRow_nil _ _ _ _, by go_simp, by go_simp, by go_simp, by go_simp, by go_simp, (by repeat (first | exact Below.refl _ _ | assumption | refine Below.drew ?_ | refine below_drewN ?_ _ | refine Below.alloc ?_ (by first | omega | (simp; done) | (simp; omega)) _ | refine Below.setCell ?_ (by first | omega | (simp; done) | (simp; omega)) _ | refine Below.trans ?_ (Below.mono (by assumption) (by first | omega | (simp; done) | (simp; omega))))), (by first | omega | (simp; done) | (simp; omega))⟩
  case round =>
    obtain ⟨k, hk, rfl, hown, c0, c1, c2, c3, c4, hbr, hz⟩ := hrel
    have hsr := hbr.size
    (repeat clear hl1); (repeat clear hl2); (repeat clear hl3); (repeat clear hl4); (repeat clear hk1); (repeat clear hk2); (repeat clear hk3); (repeat clear hk4); (repeat clear hcn); (repeat clear hfn); (repeat clear hln); (repeat clear hz0); (repeat clear hz1); (repeat clear hz2); (repeat clear hs1); (repeat clear hb1)
    by_cases hlt : k < N + 1
    · have hwl := wcs_length x1 y1 x2 y2 (N : Int) k
      have i0 : (0 : Int) ≤ (k : Int) := by omega
      have i1 : (k : Int) < (N : Int) + 1 := by omega
      have i2 : (k : Int) ≤ (N : Int) := by omega
      have hlr : ∀ b, b < wr.heap.size → b < wr.heap.size := fun _ h => h
      obtain ⟨U, V, hK⟩ := HWK.out k (by omega)
      have HK := Lib.hid hK
      clear hK
      cases hc : whK x1 y1 x2 y2 (N : Int) k
      all_goals rw [hc] at HK
      · have hnb := wcs_no hc
        have Hnb := Lib.hid hnb
        clear hnb hc
        go_upto_region 8 with (go_at_call 50; ((with_reducible refine (HK.out _).mono ?_); rintro e w1 ⟨rfl, hb1⟩; have hs1 := hb1.size; (try simp at hs1); (first | have hk4 := call_facts hl3 hb1 (by simp) | skip); (first | have hk3 := call_facts hl2 hb1 (by simp) | skip); (first | have hk2 := call_facts hl1 hb1 (by simp) | skip); have hk1 := call_facts (fun b h => h) hb1 (Nat.le_refl _); (first | have hl4 := hk4.1 | skip); (first | have hl3 := hk3.1 | skip); (first | have hl2 := hk2.1 | skip); have hl1 := hk1.1))
        obtain ⟨W1, hW1⟩ : ∃ W1, W1 = w1.alloc (.cells #[.int .i64 U, .int .i64 V] 27) := ⟨_, rfl⟩
        have hB1 : Below wr.heap.size wr W1 := by rw [hW1]; exact hb1.alloc hb1.size _
        rw [← hW1]
        clear hW1 hb1
        (repeat clear hl1); (repeat clear hl2); (repeat clear hl3); (repeat clear hl4); (repeat clear hk1); (repeat clear hk2); (repeat clear hk3); (repeat clear hk4); (repeat clear hcn); (repeat clear hfn); (repeat clear hln); (repeat clear hz0); (repeat clear hz1); (repeat clear hz2); (repeat clear hs1); (repeat clear hb1)
        have hS1 := hB1.size
        go_wp2
        go_roundw
        case rel => exact ⟨k + 1, by omega, by go_num, by rw [Hnb.out]; exact own_below hown hB1, (hB1.cell (p := ⟨w.heap.size, 0, none⟩) (by first | omega | (simp; done) | (simp; omega))).trans c0, (hB1.cell (p := ⟨w.heap.size, 1, none⟩) (by first | omega | (simp; done) | (simp; omega))).trans c1, (hB1.cell (p := ⟨w.heap.size, 2, none⟩) (by first | omega | (simp; done) | (simp; omega))).trans c2, (hB1.cell (p := ⟨w.heap.size, 3, none⟩) (by first | omega | (simp; done) | (simp; omega))).trans c3, (hB1.cell (p := ⟨w.heap.size, 4, none⟩) (by first | omega | (simp; done) | (simp; omega))).trans c4, (by repeat (first | exact Below.refl _ _ | assumption | refine Below.drew ?_ | refine below_drewN ?_ _ | refine Below.alloc ?_ (by first | omega | (simp; done) | (simp; omega)) _ | refine Below.setCell ?_ (by first | omega | (simp; done) | (simp; omega)) _ | refine Below.trans ?_ (Below.mono (by assumption) (by first | omega | (simp; done) | (simp; omega))))), (by first | omega | (simp; done) | (simp; omega))⟩
        case measure => simp [intOf]; omega
      · have hnb := wcs_yes hc
        have Hnb := Lib.hid hnb
        clear hnb hc
        go_upto_region 8 with (go_at_call 50; ((with_reducible refine (HK.out _).mono ?_); rintro e w1 ⟨rfl, hb1⟩; have hs1 := hb1.size; (try simp at hs1); (first | have hk4 := call_facts hl3 hb1 (by simp) | skip); (first | have hk3 := call_facts hl2 hb1 (by simp) | skip); (first | have hk2 := call_facts hl1 hb1 (by simp) | skip); have hk1 := call_facts (fun b h => h) hb1 (Nat.le_refl _); (first | have hl4 := hk4.1 | skip); (first | have hl3 := hk3.1 | skip); (first | have hl2 := hk2.1 | skip); have hl1 := hk1.1))
        obtain ⟨W1, hW1⟩ : ∃ W1, W1 = w1.alloc (.cells #[.int .i64 U, .int .i64 V] 27) := ⟨_, rfl⟩
        have hB1 : Below wr.heap.size wr W1 := by rw [hW1]; exact hb1.alloc hb1.size _
        rw [← hW1]
        clear hW1 hb1
        (repeat clear hl1); (repeat clear hl2); (repeat clear hl3); (repeat clear hl4); (repeat clear hk1); (repeat clear hk2); (repeat clear hk3); (repeat clear hk4); (repeat clear hcn); (repeat clear hfn); (repeat clear hln); (repeat clear hz0); (repeat clear hz1); (repeat clear hz2); (repeat clear hs1); (repeat clear hb1)
        have hS1 := hB1.size
        go_wp2_with (at_builtin; refine wpList_append_own _ rfl _ _ 46 rfl (w.heap.size + 1) 3 j0 (.int .i64 0) 1 8 Try.underlying46 HI.out HZ0.out HZ1.out HZ2.out rfl (by decide) _ _ _ rfl ((own_below hown hB1).alloc _) ⟨W1.heap.size, 0, none⟩ 1 1 [.int .i64 (k : Int)] rfl rfl ?c1 ?c2 ?c3 ?c4 ?c5 ?_)
        case c1 =>
          intro j u hj
          match j, hj with
          | 0, hj => simp at hj; subst hj; simp [Addr.add]
        case c2 => intro u hu; simp at hu; subst hu; rfl
        case c3 => unfold maxLen; omega
        case c4 => omega
        case c5 => simp; omega
        intro v' w2 hown' hgrow _
        have hst := own_stepI (w := w) (base := w.heap.size) (by repeat (first | exact Below.refl _ _ | assumption | refine Below.drew ?_ | refine below_drewN ?_ _ | refine Below.alloc ?_ (by first | omega | (simp; done) | (simp; omega)) _ | refine Below.setCell ?_ (by first | omega | (simp; done) | (simp; omega)) _ | refine Below.trans ?_ (Below.mono (by assumption) (by first | omega | (simp; done) | (simp; omega))))) (by first | omega | (simp; done) | (simp; omega)) (by omega) (own_below hown hB1) hown' hgrow
        obtain ⟨ho2, hb2, hc2, hz2⟩ := hst
        have z0 := hc2 _ _ _ (by omega) (show W1.cell? ⟨w.heap.size, 0, none⟩ = some (.int .i64 x1) from (hB1.cell (p := ⟨w.heap.size, 0, none⟩) (by first | omega | (simp; done) | (simp; omega))).trans c0)
        have z1 := hc2 _ _ _ (by omega) (show W1.cell? ⟨w.heap.size, 1, none⟩ = some (.int .i64 y1) from (hB1.cell (p := ⟨w.heap.size, 1, none⟩) (by first | omega | (simp; done) | (simp; omega))).trans c1)
        have z2 := hc2 _ _ _ (by omega) (show W1.cell? ⟨w.heap.size, 2, none⟩ = some (.int .i64 x2) from (hB1.cell (p := ⟨w.heap.size, 2, none⟩) (by first | omega | (simp; done) | (simp; omega))).trans c2)
        have z3 := hc2 _ _ _ (by omega) (show W1.cell? ⟨w.heap.size, 3, none⟩ = some (.int .i64 y2) from (hB1.cell (p := ⟨w.heap.size, 3, none⟩) (by first | omega | (simp; done) | (simp; omega))).trans c3)
        have z4 := hc2 _ _ _ (by omega) (show W1.cell? ⟨w.heap.size, 4, none⟩ = some (.int .i64 (N : Int)) from (hB1.cell (p := ⟨w.heap.size, 4, none⟩) (by first | omega | (simp; done) | (simp; omega))).trans c4)
        have zz : w.heap.size < w2.heap.size := by omega
        clear hown' hgrow hc2 hown
        (repeat clear hl1); (repeat clear hl2); (repeat clear hl3); (repeat clear hl4); (repeat clear hk1); (repeat clear hk2); (repeat clear hk3); (repeat clear hk4); (repeat clear hcn); (repeat clear hfn); (repeat clear hln); (repeat clear hz0); (repeat clear hz1); (repeat clear hz2); (repeat clear hs1); (repeat clear hb1)
        go_wp2
        go_roundw
        case rel => exact ⟨k + 1, by omega, by go_num, by rw [Hnb.out]; exact ho2, z0, z1, z2, z3, z4, hb2, zz⟩
        case measure => simp [intOf]; omega
    · obtain rfl : k = N + 1 := by omega
      have i3 : ¬ (((N + 1 : Nat) : Int) ≤ (N : Int)) := by omega
      have i4 : ¬ (((N + 1 : Nat) : Int) < (N : Int) + 1) := by omega
      go_wp2
      go_ret2
      exact ⟨_, rfl, own_mono hown (by omega), (by repeat (first | exact Below.refl _ _ | assumption | refine Below.drew ?_ | refine below_drewN ?_ _ | refine Below.alloc ?_ (by first | omega | (simp; done) | (simp; omega)) _ | refine Below.setCell ?_ (by first | omega | (simp; done) | (simp; omega)) _ | refine Below.trans ?_ (Below.mono (by assumption) (by first | omega | (simp; done) | (simp; omega)))))⟩

theorem whole_any (x1 y1 x2 y2 n : Int) (w : World) :
    Calls Try.prog 30 #[.agg #[.int .i64 x1, .int .i64 y1, .int .i64 x2, .int .i64 y2, .int .i64 n]] w (WholePost x1 y1 x2 y2 n w) := by
  cases hv : isMv x1 y1 x2 y2 n
  · refine (whole_no x1 y1 x2 y2 n hv w).mono fun e w' ⟨he, hb⟩ => ⟨.slice none 0 0, by rw [hv]; exact he, ?_, hb⟩
    have e0 : wholeL x1 y1 x2 y2 n = [] := by unfold wholeL; rw [hv]; rfl
    rw [e0]
    exact World.ownsRow_nil _ _ _ _
  · obtain ⟨_, _, n0, n1⟩ := isMv_iff.1 hv
    obtain ⟨N, rfl⟩ : ∃ N : Nat, n = (N : Int) := ⟨n.toNat, by omega⟩
    refine (whole_yes x1 y1 x2 y2 N hv w).mono fun e w' ⟨v, he, ho, hb⟩ => ⟨v, by rw [hv]; exact he, ?_, hb⟩
    have e0 : wholeL x1 y1 x2 y2 (N : Int) = wcs x1 y1 x2 y2 (N : Int) (N + 1) := by unfold wholeL; rw [hv, if_pos rfl, Int.toNat_natCast]
    rw [e0]
    exact ho

end Go.Proofs.Ytagfleajkalgiaa
