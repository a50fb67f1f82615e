/- Reversed and split moves. Conditions: those written in each theorem. -/
import Derived.Test.YtagfleajkalgiaaMvRnd
import Derived.Deep.RegionHeld3
import Derived.Deep.DrawnRows
import Derived.IntWalk
import Derived.StillTailTactics
namespace Go.Proofs.Ytagfleajkalgiaa
open Go.RowKit


attribute [local go_sem ↓] Go.wp_at_zero Go.wp_at_succ

set_option maxHeartbeats 1000000 in
theorem specReverse_any (x1 y1 x2 y2 n : Int) (w : World) :
    Calls Try.prog 22 #[.agg #[.int .i64 x1, .int .i64 y1, .int .i64 x2, .int .i64 y2, .int .i64 n]] w fun e w' => e = .returned (.tuple #[.agg #[.int .i64 (guardI (isMv x1 y1 x2 y2 n) x2), .int .i64 (guardI (isMv x1 y1 x2 y2 n) y2), .int .i64 (guardI (isMv x1 y1 x2 y2 n) x1), .int .i64 (guardI (isMv x1 y1 x2 y2 n) y1), .int .i64 (guardI (isMv x1 y1 x2 y2 n) n)], .bool (isMv x1 y1 x2 y2 n)]) ∧ Below w.heap.size w w' := by
  obtain ⟨q1, q2, q3, q4, q5, q6, q7⟩ := nadd
  have HM := Lib.hid (fun W => mvGood_any x1 y1 x2 y2 n W)
  cases h1 : isMv x1 y1 x2 y2 n
  all_goals rw [h1] at HM
  all_goals clear h1
  all_goals
    go_enter Try.func22, Try.ntmps22
    go_wp2_with (first | (go_at_call 36; ((with_reducible refine (HM.out _).mono ?_); rintro e w1 ⟨rfl, hb1⟩; have hs1 := hb1.size; (try simp at hs1); (first | have hk4 := call_facts hl3 hb1 (by simp) | skip); (first | have hk3 := call_facts hl2 hb1 (by simp) | skip); (first | have hk2 := call_facts hl1 hb1 (by simp) | skip); have hk1 := call_facts (fun b h => h) hb1 (Nat.le_refl _); (first | have hl4 := hk4.1 | skip); (first | have hl3 := hk3.1 | skip); (first | have hl2 := hk2.1 | skip); have hl1 := hk1.1)))
    first | exact bodyPost_ret (v := .tuple #[.agg #[.int .i64 0, .int .i64 0, .int .i64 0, .int .i64 0, .int .i64 0], .bool false]) (by simp [results, Try.results22, go_sem, *]) rfl ⟨rfl, (by repeat (first | with_reducible exact Below.refl _ _ | with_reducible assumption | with_reducible refine Below.drew ?_ | with_reducible refine below_drewN ?_ _ | with_reducible refine Below.alloc ?_ (by first | omega | (simp; done) | (simp; omega)) _ | with_reducible refine Below.setCell ?_ (by first | omega | (simp; done) | (simp; omega)) _ | with_reducible refine Below.trans ?_ (Below.mono (by assumption) (by first | omega | (simp; done) | (simp; omega)))))⟩ | exact bodyPost_ret (v := .tuple #[.agg #[.int .i64 x2, .int .i64 y2, .int .i64 x1, .int .i64 y1, .int .i64 n], .bool true]) (by simp [results, Try.results22, go_sem, *]) rfl ⟨rfl, (by repeat (first | with_reducible exact Below.refl _ _ | with_reducible assumption | with_reducible refine Below.drew ?_ | with_reducible refine below_drewN ?_ _ | with_reducible refine Below.alloc ?_ (by first | omega | (simp; done) | (simp; omega)) _ | with_reducible refine Below.setCell ?_ (by first | omega | (simp; done) | (simp; omega)) _ | with_reducible refine Below.trans ?_ (Below.mono (by assumption) (by first | omega | (simp; done) | (simp; omega)))))⟩

set_option maxHeartbeats 1000000 in
theorem reverse_any (x1 y1 x2 y2 n : Int) (w : World) :
    Calls Try.prog 23 #[.agg #[.int .i64 x1, .int .i64 y1, .int .i64 x2, .int .i64 y2, .int .i64 n]] w fun e w' => e = .returned (.tuple #[.agg #[.int .i64 (guardI (isMv x1 y1 x2 y2 n) x2), .int .i64 (guardI (isMv x1 y1 x2 y2 n) y2), .int .i64 (guardI (isMv x1 y1 x2 y2 n) x1), .int .i64 (guardI (isMv x1 y1 x2 y2 n) y1), .int .i64 (guardI (isMv x1 y1 x2 y2 n) n)], .bool (isMv x1 y1 x2 y2 n)]) ∧ Below w.heap.size w w' := by
  obtain ⟨q1, q2, q3, q4, q5, q6, q7⟩ := nadd
  have HM := Lib.hid (fun W => isMove_any x1 y1 x2 y2 n W)
  cases h1 : isMv x1 y1 x2 y2 n
  all_goals rw [h1] at HM
  all_goals clear h1
  all_goals
    go_enter Try.func23, Try.ntmps23
    go_wp2_with (first | (go_at_call 14; ((with_reducible refine (HM.out _).mono ?_); rintro e w1 ⟨rfl, hb1⟩; have hs1 := hb1.size; (try simp at hs1); (first | have hk4 := call_facts hl3 hb1 (by simp) | skip); (first | have hk3 := call_facts hl2 hb1 (by simp) | skip); (first | have hk2 := call_facts hl1 hb1 (by simp) | skip); have hk1 := call_facts (fun b h => h) hb1 (Nat.le_refl _); (first | have hl4 := hk4.1 | skip); (first | have hl3 := hk3.1 | skip); (first | have hl2 := hk2.1 | skip); have hl1 := hk1.1)))
    first | exact bodyPost_ret (v := .tuple #[.agg #[.int .i64 0, .int .i64 0, .int .i64 0, .int .i64 0, .int .i64 0], .bool false]) (by simp [results, Try.results23, go_sem, *]) rfl ⟨rfl, (by repeat (first | with_reducible exact Below.refl _ _ | with_reducible assumption | with_reducible refine Below.drew ?_ | with_reducible refine below_drewN ?_ _ | with_reducible refine Below.alloc ?_ (by first | omega | (simp; done) | (simp; omega)) _ | with_reducible refine Below.setCell ?_ (by first | omega | (simp; done) | (simp; omega)) _ | with_reducible refine Below.trans ?_ (Below.mono (by assumption) (by first | omega | (simp; done) | (simp; omega)))))⟩ | exact bodyPost_ret (v := .tuple #[.agg #[.int .i64 x2, .int .i64 y2, .int .i64 x1, .int .i64 y1, .int .i64 n], .bool true]) (by simp [results, Try.results23, go_sem, *]) rfl ⟨rfl, (by repeat (first | with_reducible exact Below.refl _ _ | with_reducible assumption | with_reducible refine Below.drew ?_ | with_reducible refine below_drewN ?_ _ | with_reducible refine Below.alloc ?_ (by first | omega | (simp; done) | (simp; omega)) _ | with_reducible refine Below.setCell ?_ (by first | omega | (simp; done) | (simp; omega)) _ | with_reducible refine Below.trans ?_ (Below.mono (by assumption) (by first | omega | (simp; done) | (simp; omega)))))⟩

/-- Can the move be split at the count? -/
def spOk (x1 y1 x2 y2 n k : Int) : Bool := isMv x1 y1 x2 y2 n && inB 1 k (n - 1) && (wh (px x1 x2 n k) n && wh (px y1 y2 n k) n)
theorem spOk_no {x1 y1 x2 y2 n k : Int} (h : isMv x1 y1 x2 y2 n = false) : spOk x1 y1 x2 y2 n k = false := by simp [spOk, h]
theorem spOk_out {x1 y1 x2 y2 n k : Int} (h : isMv x1 y1 x2 y2 n = true) (h2 : inB 1 k (n - 1) = false) : spOk x1 y1 x2 y2 n k = false := by simp [spOk, h, h2]
theorem spOk_yes {x1 y1 x2 y2 n k : Int} {c : Bool} (h : isMv x1 y1 x2 y2 n = true) (h2 : inB 1 k (n - 1) = true) (h3 : (wh (px x1 x2 n k) n && wh (px y1 y2 n k) n) = c) : spOk x1 y1 x2 y2 n k = c := by
  unfold spOk
  rw [h, h2, h3]
  rfl
theorem spOk_pl {x1 y1 x2 y2 n k : Int} (h0 : ¬ k = 0) (h1 : ¬ k = n) : spOk x1 y1 x2 y2 n k = (plOk x1 y1 x2 y2 n k && wh (px x1 x2 n k) n && wh (px y1 y2 n k) n) := by
  have e : inB 1 k (n - 1) = inB 0 k n := by
    unfold inB
    exact decide_eq_decide.2 (by omega)
  unfold spOk plOk
  rw [e, Bool.and_assoc (isMv x1 y1 x2 y2 n && inB 0 k n)]
theorem spOk_end {x1 y1 x2 y2 n k : Int} (h : k = 0 ∨ k = n) : spOk x1 y1 x2 y2 n k = false := by
  have e : inB 1 k (n - 1) = false := by
    unfold inB
    exact decide_eq_false (by omega)
  simp [spOk, e]

set_option maxHeartbeats 1000000 in
theorem specSplit_no (x1 y1 x2 y2 n k : Int) (h1 : isMv x1 y1 x2 y2 n = false) (w : World) :
    Calls Try.prog 25 #[.agg #[.int .i64 x1, .int .i64 y1, .int .i64 x2, .int .i64 y2, .int .i64 n], .int .i64 k] w fun e w' => e = .returned (.tuple #[.agg #[.int .i64 (guardI (spOk x1 y1 x2 y2 n k) x1), .int .i64 (guardI (spOk x1 y1 x2 y2 n k) y1), .int .i64 (guardI (spOk x1 y1 x2 y2 n k) ((px x1 x2 n k).tdiv n)), .int .i64 (guardI (spOk x1 y1 x2 y2 n k) ((px y1 y2 n k).tdiv n)), .int .i64 (guardI (spOk x1 y1 x2 y2 n k) k)], .agg #[.int .i64 (guardI (spOk x1 y1 x2 y2 n k) ((px x1 x2 n k).tdiv n)), .int .i64 (guardI (spOk x1 y1 x2 y2 n k) ((px y1 y2 n k).tdiv n)), .int .i64 (guardI (spOk x1 y1 x2 y2 n k) x2), .int .i64 (guardI (spOk x1 y1 x2 y2 n k) y2), .int .i64 (guardI (spOk x1 y1 x2 y2 n k) (n - k))], .bool (spOk x1 y1 x2 y2 n k)]) ∧ Below w.heap.size w w' := by
  obtain ⟨q1, q2, q3, q4, q5, q6, q7⟩ := nadd
  rw [spOk_no h1]
  have HM := Lib.hid (fun W => mvGood_any x1 y1 x2 y2 n W)
  rw [h1] at HM
  clear h1
  all_goals
    go_enter Try.func25, Try.ntmps25
    go_wp2_with (first | (go_at_call 36; ((with_reducible refine (HM.out _).mono ?_); rintro e w1 ⟨rfl, hb1⟩; have hs1 := hb1.size; (try simp at hs1); (first | have hk4 := call_facts hl3 hb1 (by simp) | skip); (first | have hk3 := call_facts hl2 hb1 (by simp) | skip); (first | have hk2 := call_facts hl1 hb1 (by simp) | skip); have hk1 := call_facts (fun b h => h) hb1 (Nat.le_refl _); (first | have hl4 := hk4.1 | skip); (first | have hl3 := hk3.1 | skip); (first | have hl2 := hk2.1 | skip); have hl1 := hk1.1)))
    first | exact bodyPost_ret (v := .tuple #[.agg #[.int .i64 0, .int .i64 0, .int .i64 0, .int .i64 0, .int .i64 0], .agg #[.int .i64 0, .int .i64 0, .int .i64 0, .int .i64 0, .int .i64 0], .bool false]) (by simp [results, Try.results25, go_sem, *]) rfl ⟨rfl, (by repeat (first | with_reducible exact Below.refl _ _ | with_reducible assumption | with_reducible refine Below.drew ?_ | with_reducible refine below_drewN ?_ _ | with_reducible refine Below.alloc ?_ (by first | omega | (simp; done) | (simp; omega)) _ | with_reducible refine Below.setCell ?_ (by first | omega | (simp; done) | (simp; omega)) _ | with_reducible refine Below.trans ?_ (Below.mono (by assumption) (by first | omega | (simp; done) | (simp; omega)))))⟩

set_option maxHeartbeats 1000000 in
theorem specSplit_out (x1 y1 x2 y2 n k : Int) (h1 : isMv x1 y1 x2 y2 n = true) (h2 : inB 1 k (n - 1) = false) (w : World) :
    Calls Try.prog 25 #[.agg #[.int .i64 x1, .int .i64 y1, .int .i64 x2, .int .i64 y2, .int .i64 n], .int .i64 k] w fun e w' => e = .returned (.tuple #[.agg #[.int .i64 (guardI (spOk x1 y1 x2 y2 n k) x1), .int .i64 (guardI (spOk x1 y1 x2 y2 n k) y1), .int .i64 (guardI (spOk x1 y1 x2 y2 n k) ((px x1 x2 n k).tdiv n)), .int .i64 (guardI (spOk x1 y1 x2 y2 n k) ((px y1 y2 n k).tdiv n)), .int .i64 (guardI (spOk x1 y1 x2 y2 n k) k)], .agg #[.int .i64 (guardI (spOk x1 y1 x2 y2 n k) ((px x1 x2 n k).tdiv n)), .int .i64 (guardI (spOk x1 y1 x2 y2 n k) ((px y1 y2 n k).tdiv n)), .int .i64 (guardI (spOk x1 y1 x2 y2 n k) x2), .int .i64 (guardI (spOk x1 y1 x2 y2 n k) y2), .int .i64 (guardI (spOk x1 y1 x2 y2 n k) (n - k))], .bool (spOk x1 y1 x2 y2 n k)]) ∧ Below w.heap.size w w' := by
  obtain ⟨q1, q2, q3, q4, q5, q6, q7⟩ := nadd
  rw [spOk_out h1 h2]
  obtain ⟨_, _, n0, n1⟩ := isMv_iff.1 h1
  have v1 : IntKind.i64.wrap (n - 1) = n - 1 := IntWalk.i64_in _ (by omega)
  clear n0 n1
  have HM := Lib.hid (fun W => mvGood_any x1 y1 x2 y2 n W)
  rw [h1] at HM
  clear h1
  all_goals
    go_enter Try.func25, Try.ntmps25
    go_wp2_with (first | (go_at_call 36; ((with_reducible refine (HM.out _).mono ?_); rintro e w1 ⟨rfl, hb1⟩; have hs1 := hb1.size; (try simp at hs1); (first | have hk4 := call_facts hl3 hb1 (by simp) | skip); (first | have hk3 := call_facts hl2 hb1 (by simp) | skip); (first | have hk2 := call_facts hl1 hb1 (by simp) | skip); have hk1 := call_facts (fun b h => h) hb1 (Nat.le_refl _); (first | have hl4 := hk4.1 | skip); (first | have hl3 := hk3.1 | skip); (first | have hl2 := hk2.1 | skip); have hl1 := hk1.1)) | (go_at_call 48; ((with_reducible refine (l1In_any _ _ _ _).mono ?_); rintro e w' ⟨rfl, rfl⟩)))
    first | exact bodyPost_ret (v := .tuple #[.agg #[.int .i64 0, .int .i64 0, .int .i64 0, .int .i64 0, .int .i64 0], .agg #[.int .i64 0, .int .i64 0, .int .i64 0, .int .i64 0, .int .i64 0], .bool false]) (by simp [results, Try.results25, go_sem, *]) rfl ⟨rfl, (by repeat (first | with_reducible exact Below.refl _ _ | with_reducible assumption | with_reducible refine Below.drew ?_ | with_reducible refine below_drewN ?_ _ | with_reducible refine Below.alloc ?_ (by first | omega | (simp; done) | (simp; omega)) _ | with_reducible refine Below.setCell ?_ (by first | omega | (simp; done) | (simp; omega)) _ | with_reducible refine Below.trans ?_ (Below.mono (by assumption) (by first | omega | (simp; done) | (simp; omega)))))⟩

set_option maxHeartbeats 1000000 in
theorem specSplit_part (x1 y1 x2 y2 n k : Int) (h1 : isMv x1 y1 x2 y2 n = true) (h2 : inB 1 k (n - 1) = true) (h3 : (wh (px x1 x2 n k) n && wh (px y1 y2 n k) n) = false) (w : World) :
    Calls Try.prog 25 #[.agg #[.int .i64 x1, .int .i64 y1, .int .i64 x2, .int .i64 y2, .int .i64 n], .int .i64 k] w fun e w' => e = .returned (.tuple #[.agg #[.int .i64 (guardI (spOk x1 y1 x2 y2 n k) x1), .int .i64 (guardI (spOk x1 y1 x2 y2 n k) y1), .int .i64 (guardI (spOk x1 y1 x2 y2 n k) ((px x1 x2 n k).tdiv n)), .int .i64 (guardI (spOk x1 y1 x2 y2 n k) ((px y1 y2 n k).tdiv n)), .int .i64 (guardI (spOk x1 y1 x2 y2 n k) k)], .agg #[.int .i64 (guardI (spOk x1 y1 x2 y2 n k) ((px x1 x2 n k).tdiv n)), .int .i64 (guardI (spOk x1 y1 x2 y2 n k) ((px y1 y2 n k).tdiv n)), .int .i64 (guardI (spOk x1 y1 x2 y2 n k) x2), .int .i64 (guardI (spOk x1 y1 x2 y2 n k) y2), .int .i64 (guardI (spOk x1 y1 x2 y2 n k) (n - k))], .bool (spOk x1 y1 x2 y2 n k)]) ∧ Below w.heap.size w w' := by
  obtain ⟨q1, q2, q3, q4, q5, q6, q7⟩ := nadd
  obtain ⟨k0, k1⟩ := inB_iff.1 h2
  have HW := Lib.hid (fun W => mvWhole_any x1 y1 x2 y2 n k h1 (by omega) (by omega) W)
  rw [h3] at HW
  rw [spOk_yes h1 h2 h3]
  clear k0 k1 h3
  obtain ⟨_, _, n0, n1⟩ := isMv_iff.1 h1
  have v1 : IntKind.i64.wrap (n - 1) = n - 1 := IntWalk.i64_in _ (by omega)
  clear n0 n1
  have HM := Lib.hid (fun W => mvGood_any x1 y1 x2 y2 n W)
  rw [h1] at HM
  clear h1
  all_goals
    go_enter Try.func25, Try.ntmps25
    go_wp2_with (first | (go_at_call 36; ((with_reducible refine (HM.out _).mono ?_); rintro e w1 ⟨rfl, hb1⟩; have hs1 := hb1.size; (try simp at hs1); (first | have hk4 := call_facts hl3 hb1 (by simp) | skip); (first | have hk3 := call_facts hl2 hb1 (by simp) | skip); (first | have hk2 := call_facts hl1 hb1 (by simp) | skip); have hk1 := call_facts (fun b h => h) hb1 (Nat.le_refl _); (first | have hl4 := hk4.1 | skip); (first | have hl3 := hk3.1 | skip); (first | have hl2 := hk2.1 | skip); have hl1 := hk1.1)) | (go_at_call 48; ((with_reducible refine (l1In_any _ _ _ _).mono ?_); rintro e w' ⟨rfl, rfl⟩)) | (go_at_call 49; ((with_reducible refine (HW.out _).mono ?_); rintro e w1 ⟨rfl, hb1⟩; have hs1 := hb1.size; (try simp at hs1); (first | have hk4 := call_facts hl3 hb1 (by simp) | skip); (first | have hk3 := call_facts hl2 hb1 (by simp) | skip); (first | have hk2 := call_facts hl1 hb1 (by simp) | skip); have hk1 := call_facts (fun b h => h) hb1 (Nat.le_refl _); (first | have hl4 := hk4.1 | skip); (first | have hl3 := hk3.1 | skip); (first | have hl2 := hk2.1 | skip); have hl1 := hk1.1)))
    first | exact bodyPost_ret (v := .tuple #[.agg #[.int .i64 0, .int .i64 0, .int .i64 0, .int .i64 0, .int .i64 0], .agg #[.int .i64 0, .int .i64 0, .int .i64 0, .int .i64 0, .int .i64 0], .bool false]) (by simp [results, Try.results25, go_sem, *]) rfl ⟨rfl, (by repeat (first | with_reducible exact Below.refl _ _ | with_reducible assumption | with_reducible refine Below.drew ?_ | with_reducible refine below_drewN ?_ _ | with_reducible refine Below.alloc ?_ (by first | omega | (simp; done) | (simp; omega)) _ | with_reducible refine Below.setCell ?_ (by first | omega | (simp; done) | (simp; omega)) _ | with_reducible refine Below.trans ?_ (Below.mono (by assumption) (by first | omega | (simp; done) | (simp; omega)))))⟩

set_option maxHeartbeats 2000000 in
theorem specSplit_yes (x1 y1 x2 y2 n k : Int) (h1 : isMv x1 y1 x2 y2 n = true) (h2 : inB 1 k (n - 1) = true) (h3 : (wh (px x1 x2 n k) n && wh (px y1 y2 n k) n) = true) (w : World) :
    Calls Try.prog 25 #[.agg #[.int .i64 x1, .int .i64 y1, .int .i64 x2, .int .i64 y2, .int .i64 n], .int .i64 k] w fun e w' => e = .returned (.tuple #[.agg #[.int .i64 (guardI (spOk x1 y1 x2 y2 n k) x1), .int .i64 (guardI (spOk x1 y1 x2 y2 n k) y1), .int .i64 (guardI (spOk x1 y1 x2 y2 n k) ((px x1 x2 n k).tdiv n)), .int .i64 (guardI (spOk x1 y1 x2 y2 n k) ((px y1 y2 n k).tdiv n)), .int .i64 (guardI (spOk x1 y1 x2 y2 n k) k)], .agg #[.int .i64 (guardI (spOk x1 y1 x2 y2 n k) ((px x1 x2 n k).tdiv n)), .int .i64 (guardI (spOk x1 y1 x2 y2 n k) ((px y1 y2 n k).tdiv n)), .int .i64 (guardI (spOk x1 y1 x2 y2 n k) x2), .int .i64 (guardI (spOk x1 y1 x2 y2 n k) y2), .int .i64 (guardI (spOk x1 y1 x2 y2 n k) (n - k))], .bool (spOk x1 y1 x2 y2 n k)]) ∧ Below w.heap.size w w' := by
  obtain ⟨q1, q2, q3, q4, q5, q6, q7⟩ := nadd
  obtain ⟨k0, k1⟩ := inB_iff.1 h2
  have HW := Lib.hid (fun W => mvWhole_any x1 y1 x2 y2 n k h1 (by omega) (by omega) W)
  rw [h3] at HW
  have HRD := Lib.hid (fun W => mvRound_any x1 y1 x2 y2 n k h1 (by omega) (by omega) W)
  obtain ⟨⟨n0, n1⟩, ⟨p0, p1⟩, ⟨r0, r1⟩⟩ := mv_facts h1 (show 0 ≤ k by omega) (show k ≤ n by omega)
  obtain ⟨w1', w2'⟩ := (by simpa using h3 : wh (px x1 x2 n k) n = true ∧ wh (px y1 y2 n k) n = true)
  rw [wh_quo p0 n0 w1', wh_quo r0 n0 w2'] at HRD
  rw [spOk_yes h1 h2 h3]
  obtain ⟨U, hU⟩ : ∃ U, U = (px x1 x2 n k).tdiv n := ⟨_, rfl⟩
  obtain ⟨V, hV⟩ : ∃ V, V = (px y1 y2 n k).tdiv n := ⟨_, rfl⟩
  rw [← hU, ← hV] at HRD
  rw [← hU, ← hV]
  have v2 : IntKind.i64.wrap (n - k) = n - k := IntWalk.i64_in _ (by omega)
  clear k0 k1 h3 hU hV w1' w2' p0 p1 r0 r1
  skip
  have v1 : IntKind.i64.wrap (n - 1) = n - 1 := IntWalk.i64_in _ (by omega)
  clear n0 n1
  have HM := Lib.hid (fun W => mvGood_any x1 y1 x2 y2 n W)
  rw [h1] at HM
  clear h1
  all_goals
    go_enter Try.func25, Try.ntmps25
    go_wp2_with (first | (go_at_call 36; ((with_reducible refine (HM.out _).mono ?_); rintro e w1 ⟨rfl, hb1⟩; have hs1 := hb1.size; (try simp at hs1); (first | have hk4 := call_facts hl3 hb1 (by simp) | skip); (first | have hk3 := call_facts hl2 hb1 (by simp) | skip); (first | have hk2 := call_facts hl1 hb1 (by simp) | skip); have hk1 := call_facts (fun b h => h) hb1 (Nat.le_refl _); (first | have hl4 := hk4.1 | skip); (first | have hl3 := hk3.1 | skip); (first | have hl2 := hk2.1 | skip); have hl1 := hk1.1)) | (go_at_call 48; ((with_reducible refine (l1In_any _ _ _ _).mono ?_); rintro e w' ⟨rfl, rfl⟩)) | (go_at_call 49; ((with_reducible refine (HW.out _).mono ?_); rintro e w1 ⟨rfl, hb1⟩; have hs1 := hb1.size; (try simp at hs1); (first | have hk4 := call_facts hl3 hb1 (by simp) | skip); (first | have hk3 := call_facts hl2 hb1 (by simp) | skip); (first | have hk2 := call_facts hl1 hb1 (by simp) | skip); have hk1 := call_facts (fun b h => h) hb1 (Nat.le_refl _); (first | have hl4 := hk4.1 | skip); (first | have hl3 := hk3.1 | skip); (first | have hl2 := hk2.1 | skip); have hl1 := hk1.1)) | (go_at_call 42; ((with_reducible refine (HRD.out _).mono ?_); rintro e w1 ⟨rfl, hb1⟩; have hs1 := hb1.size; (try simp at hs1); (first | have hk4 := call_facts hl3 hb1 (by simp) | skip); (first | have hk3 := call_facts hl2 hb1 (by simp) | skip); (first | have hk2 := call_facts hl1 hb1 (by simp) | skip); have hk1 := call_facts (fun b h => h) hb1 (Nat.le_refl _); (first | have hl4 := hk4.1 | skip); (first | have hl3 := hk3.1 | skip); (first | have hl2 := hk2.1 | skip); have hl1 := hk1.1)))
    go_region_held3 (fun w' => w'.cell? ⟨w.heap.size, 0, none⟩ = some (.int .i64 x1) ∧ w'.cell? ⟨w.heap.size, 1, none⟩ = some (.int .i64 y1) ∧ w'.cell? ⟨w.heap.size, 2, none⟩ = some (.int .i64 x2) ∧ w'.cell? ⟨w.heap.size, 3, none⟩ = some (.int .i64 y2) ∧ w'.cell? ⟨w.heap.size, 4, none⟩ = some (.int .i64 n) ∧ w'.cell? ⟨w1.heap.size, 0, none⟩ = some (.int .i64 U) ∧ w'.cell? ⟨w1.heap.size, 1, none⟩ = some (.int .i64 V)) (refine ⟨?_, ?_, ?_, ?_, ?_, ?_, ?_⟩ <;> first | (go_keep; done) | (simp [*, World.cell?_alloc_past, World.cell?_setCell_far]; done) | (simp [*, World.cell?_alloc_past, World.cell?_alloc_at, World.cell?_setCell_far]; done) | (go_simp; done)) (fail)
    go_wp2
    first | exact bodyPost_ret (v := .tuple #[.agg #[.int .i64 x1, .int .i64 y1, .int .i64 U, .int .i64 V, .int .i64 k], .agg #[.int .i64 U, .int .i64 V, .int .i64 x2, .int .i64 y2, .int .i64 (n - k)], .bool true]) (by simp [results, Try.results25, go_sem, *]) rfl ⟨rfl, (by repeat (first | with_reducible exact Below.refl _ _ | with_reducible assumption | with_reducible refine Below.drew ?_ | with_reducible refine below_drewN ?_ _ | with_reducible refine Below.alloc ?_ (by first | omega | (simp; done) | (simp; omega)) _ | with_reducible refine Below.setCell ?_ (by first | omega | (simp; done) | (simp; omega)) _ | with_reducible refine Below.trans ?_ (Below.mono (by assumption) (by first | omega | (simp; done) | (simp; omega)))))⟩

theorem specSplit_any (x1 y1 x2 y2 n k : Int) (w : World) :
    Calls Try.prog 25 #[.agg #[.int .i64 x1, .int .i64 y1, .int .i64 x2, .int .i64 y2, .int .i64 n], .int .i64 k] w fun e w' => e = .returned (.tuple #[.agg #[.int .i64 (guardI (spOk x1 y1 x2 y2 n k) x1), .int .i64 (guardI (spOk x1 y1 x2 y2 n k) y1), .int .i64 (guardI (spOk x1 y1 x2 y2 n k) ((px x1 x2 n k).tdiv n)), .int .i64 (guardI (spOk x1 y1 x2 y2 n k) ((px y1 y2 n k).tdiv n)), .int .i64 (guardI (spOk x1 y1 x2 y2 n k) k)], .agg #[.int .i64 (guardI (spOk x1 y1 x2 y2 n k) ((px x1 x2 n k).tdiv n)), .int .i64 (guardI (spOk x1 y1 x2 y2 n k) ((px y1 y2 n k).tdiv n)), .int .i64 (guardI (spOk x1 y1 x2 y2 n k) x2), .int .i64 (guardI (spOk x1 y1 x2 y2 n k) y2), .int .i64 (guardI (spOk x1 y1 x2 y2 n k) (n - k))], .bool (spOk x1 y1 x2 y2 n k)]) ∧ Below w.heap.size w w' := by
  cases h1 : isMv x1 y1 x2 y2 n
  · exact specSplit_no x1 y1 x2 y2 n k h1 w
  · cases h2 : inB 1 k (n - 1)
    · exact specSplit_out x1 y1 x2 y2 n k h1 h2 w
    · cases h3 : (wh (px x1 x2 n k) n && wh (px y1 y2 n k) n)
      · exact specSplit_part x1 y1 x2 y2 n k h1 h2 h3 w
      · exact specSplit_yes x1 y1 x2 y2 n k h1 h2 h3 w

set_option maxHeartbeats 1000000 in
theorem split_no (x1 y1 x2 y2 n k : Int) (h1 : (plOk x1 y1 x2 y2 n k && wh (px x1 x2 n k) n && wh (px y1 y2 n k) n) = false) (w : World) :
    Calls Try.prog 26 #[.agg #[.int .i64 x1, .int .i64 y1, .int .i64 x2, .int .i64 y2, .int .i64 n], .int .i64 k] w fun e w' => e = .returned (.tuple #[.agg #[.int .i64 (guardI (spOk x1 y1 x2 y2 n k) x1), .int .i64 (guardI (spOk x1 y1 x2 y2 n k) y1), .int .i64 (guardI (spOk x1 y1 x2 y2 n k) ((px x1 x2 n k).tdiv n)), .int .i64 (guardI (spOk x1 y1 x2 y2 n k) ((px y1 y2 n k).tdiv n)), .int .i64 (guardI (spOk x1 y1 x2 y2 n k) k)], .agg #[.int .i64 (guardI (spOk x1 y1 x2 y2 n k) ((px x1 x2 n k).tdiv n)), .int .i64 (guardI (spOk x1 y1 x2 y2 n k) ((px y1 y2 n k).tdiv n)), .int .i64 (guardI (spOk x1 y1 x2 y2 n k) x2), .int .i64 (guardI (spOk x1 y1 x2 y2 n k) y2), .int .i64 (guardI (spOk x1 y1 x2 y2 n k) (n - k))], .bool (spOk x1 y1 x2 y2 n k)]) ∧ Below w.heap.size w w' := by
  obtain ⟨q1, q2, q3, q4, q5, q6, q7⟩ := nadd
  have h2 : (spOk x1 y1 x2 y2 n k) = false := by
    by_cases c : k = 0 ∨ k = n
    · exact spOk_end c
    · rw [spOk_pl (fun c' => c (Or.inl c')) (fun c' => c (Or.inr c')), h1]
  rw [h2]
  clear h2
  have HWA := Lib.hid (fun W => wholeAt_any x1 y1 x2 y2 n k W)
  rw [h1] at HWA
  obtain ⟨U, hU⟩ : ∃ U, U = (px x1 x2 n k).tdiv n := ⟨_, rfl⟩
  obtain ⟨V, hV⟩ : ∃ V, V = (px y1 y2 n k).tdiv n := ⟨_, rfl⟩
  rw [← hU, ← hV] at HWA
  rw [← hU, ← hV]
  simp only [guardI_facts.1, guardI_facts.2] at HWA
  clear h1 hU hV
  all_goals
    go_enter Try.func26, Try.ntmps26
    go_wp2_with (first | (go_at_call 50; ((with_reducible refine (HWA.out _).mono ?_); rintro e w1 ⟨rfl, hb1⟩; have hs1 := hb1.size; (try simp at hs1); (first | have hk4 := call_facts hl3 hb1 (by simp) | skip); (first | have hk3 := call_facts hl2 hb1 (by simp) | skip); (first | have hk2 := call_facts hl1 hb1 (by simp) | skip); have hk1 := call_facts (fun b h => h) hb1 (Nat.le_refl _); (first | have hl4 := hk4.1 | skip); (first | have hl3 := hk3.1 | skip); (first | have hl2 := hk2.1 | skip); have hl1 := hk1.1)))
    first | exact bodyPost_ret (v := .tuple #[.agg #[.int .i64 0, .int .i64 0, .int .i64 0, .int .i64 0, .int .i64 0], .agg #[.int .i64 0, .int .i64 0, .int .i64 0, .int .i64 0, .int .i64 0], .bool false]) (by simp [results, Try.results26, go_sem, *]) rfl ⟨rfl, (by repeat (first | with_reducible exact Below.refl _ _ | with_reducible assumption | with_reducible refine Below.drew ?_ | with_reducible refine below_drewN ?_ _ | with_reducible refine Below.alloc ?_ (by first | omega | (simp; done) | (simp; omega)) _ | with_reducible refine Below.setCell ?_ (by first | omega | (simp; done) | (simp; omega)) _ | with_reducible refine Below.trans ?_ (Below.mono (by assumption) (by first | omega | (simp; done) | (simp; omega)))))⟩

set_option maxHeartbeats 1000000 in
theorem split_end (x1 y1 x2 y2 n k : Int) (h1 : (plOk x1 y1 x2 y2 n k && wh (px x1 x2 n k) n && wh (px y1 y2 n k) n) = true) (h2 : k = 0 ∨ k = n) (w : World) :
    Calls Try.prog 26 #[.agg #[.int .i64 x1, .int .i64 y1, .int .i64 x2, .int .i64 y2, .int .i64 n], .int .i64 k] w fun e w' => e = .returned (.tuple #[.agg #[.int .i64 (guardI (spOk x1 y1 x2 y2 n k) x1), .int .i64 (guardI (spOk x1 y1 x2 y2 n k) y1), .int .i64 (guardI (spOk x1 y1 x2 y2 n k) ((px x1 x2 n k).tdiv n)), .int .i64 (guardI (spOk x1 y1 x2 y2 n k) ((px y1 y2 n k).tdiv n)), .int .i64 (guardI (spOk x1 y1 x2 y2 n k) k)], .agg #[.int .i64 (guardI (spOk x1 y1 x2 y2 n k) ((px x1 x2 n k).tdiv n)), .int .i64 (guardI (spOk x1 y1 x2 y2 n k) ((px y1 y2 n k).tdiv n)), .int .i64 (guardI (spOk x1 y1 x2 y2 n k) x2), .int .i64 (guardI (spOk x1 y1 x2 y2 n k) y2), .int .i64 (guardI (spOk x1 y1 x2 y2 n k) (n - k))], .bool (spOk x1 y1 x2 y2 n k)]) ∧ Below w.heap.size w w' := by
  obtain ⟨q1, q2, q3, q4, q5, q6, q7⟩ := nadd
  rw [spOk_end h2]
  have HWA := Lib.hid (fun W => wholeAt_any x1 y1 x2 y2 n k W)
  rw [h1] at HWA
  obtain ⟨U, hU⟩ : ∃ U, U = (px x1 x2 n k).tdiv n := ⟨_, rfl⟩
  obtain ⟨V, hV⟩ : ∃ V, V = (px y1 y2 n k).tdiv n := ⟨_, rfl⟩
  rw [← hU, ← hV] at HWA
  rw [← hU, ← hV]
  simp only [guardI_facts.1, guardI_facts.2] at HWA
  clear h1 hU hV
  rcases h2 with rfl | rfl
  case' inr =>
    by_cases c0 : k = 0
    case' pos => subst c0
  all_goals
    go_enter Try.func26, Try.ntmps26
    go_wp2_with (first | (go_at_call 50; ((with_reducible refine (HWA.out _).mono ?_); rintro e w1 ⟨rfl, hb1⟩; have hs1 := hb1.size; (try simp at hs1); (first | have hk4 := call_facts hl3 hb1 (by simp) | skip); (first | have hk3 := call_facts hl2 hb1 (by simp) | skip); (first | have hk2 := call_facts hl1 hb1 (by simp) | skip); have hk1 := call_facts (fun b h => h) hb1 (Nat.le_refl _); (first | have hl4 := hk4.1 | skip); (first | have hl3 := hk3.1 | skip); (first | have hl2 := hk2.1 | skip); have hl1 := hk1.1)))
    first | exact bodyPost_ret (v := .tuple #[.agg #[.int .i64 0, .int .i64 0, .int .i64 0, .int .i64 0, .int .i64 0], .agg #[.int .i64 0, .int .i64 0, .int .i64 0, .int .i64 0, .int .i64 0], .bool false]) (by simp [results, Try.results26, go_sem, *]) rfl ⟨rfl, (by repeat (first | with_reducible exact Below.refl _ _ | with_reducible assumption | with_reducible refine Below.drew ?_ | with_reducible refine below_drewN ?_ _ | with_reducible refine Below.alloc ?_ (by first | omega | (simp; done) | (simp; omega)) _ | with_reducible refine Below.setCell ?_ (by first | omega | (simp; done) | (simp; omega)) _ | with_reducible refine Below.trans ?_ (Below.mono (by assumption) (by first | omega | (simp; done) | (simp; omega)))))⟩

set_option maxHeartbeats 2000000 in
theorem split_yes (x1 y1 x2 y2 n k : Int) (h1 : (plOk x1 y1 x2 y2 n k && wh (px x1 x2 n k) n && wh (px y1 y2 n k) n) = true) (h2 : ¬ k = 0) (h3 : ¬ k = n) (w : World) :
    Calls Try.prog 26 #[.agg #[.int .i64 x1, .int .i64 y1, .int .i64 x2, .int .i64 y2, .int .i64 n], .int .i64 k] w fun e w' => e = .returned (.tuple #[.agg #[.int .i64 (guardI (spOk x1 y1 x2 y2 n k) x1), .int .i64 (guardI (spOk x1 y1 x2 y2 n k) y1), .int .i64 (guardI (spOk x1 y1 x2 y2 n k) ((px x1 x2 n k).tdiv n)), .int .i64 (guardI (spOk x1 y1 x2 y2 n k) ((px y1 y2 n k).tdiv n)), .int .i64 (guardI (spOk x1 y1 x2 y2 n k) k)], .agg #[.int .i64 (guardI (spOk x1 y1 x2 y2 n k) ((px x1 x2 n k).tdiv n)), .int .i64 (guardI (spOk x1 y1 x2 y2 n k) ((px y1 y2 n k).tdiv n)), .int .i64 (guardI (spOk x1 y1 x2 y2 n k) x2), .int .i64 (guardI (spOk x1 y1 x2 y2 n k) y2), .int .i64 (guardI (spOk x1 y1 x2 y2 n k) (n - k))], .bool (spOk x1 y1 x2 y2 n k)]) ∧ Below w.heap.size w w' := by
  obtain ⟨q1, q2, q3, q4, q5, q6, q7⟩ := nadd
  rw [spOk_pl h2 h3, h1]
  have h4 : 0 ≤ k ∧ k ≤ n ∧ n ≤ 64 := by
    have c : plOk x1 y1 x2 y2 n k = true := by
      cases c : plOk x1 y1 x2 y2 n k
      · rw [c] at h1; simp at h1
      · rfl
    obtain ⟨c1, c2, c3⟩ := plOk_iff.1 c
    obtain ⟨_, _, c4, c5⟩ := isMv_iff.1 c1
    omega
  have v2 : IntKind.i64.wrap (n - k) = n - k := IntWalk.i64_in _ (by omega)
  clear h4
  have z1 : (k == 0) = false := by simpa using h2
  have z2 : (k == n) = false := by simpa using h3
  have HWA := Lib.hid (fun W => wholeAt_any x1 y1 x2 y2 n k W)
  rw [h1] at HWA
  obtain ⟨U, hU⟩ : ∃ U, U = (px x1 x2 n k).tdiv n := ⟨_, rfl⟩
  obtain ⟨V, hV⟩ : ∃ V, V = (px y1 y2 n k).tdiv n := ⟨_, rfl⟩
  rw [← hU, ← hV] at HWA
  rw [← hU, ← hV]
  simp only [guardI_facts.1, guardI_facts.2] at HWA
  clear h1 hU hV
  all_goals
    go_enter Try.func26, Try.ntmps26
    go_wp2_with (first | (go_at_call 50; ((with_reducible refine (HWA.out _).mono ?_); rintro e w1 ⟨rfl, hb1⟩; have hs1 := hb1.size; (try simp at hs1); (first | have hk4 := call_facts hl3 hb1 (by simp) | skip); (first | have hk3 := call_facts hl2 hb1 (by simp) | skip); (first | have hk2 := call_facts hl1 hb1 (by simp) | skip); have hk1 := call_facts (fun b h => h) hb1 (Nat.le_refl _); (first | have hl4 := hk4.1 | skip); (first | have hl3 := hk3.1 | skip); (first | have hl2 := hk2.1 | skip); have hl1 := hk1.1; have zl00 : w.heap.size < w1.heap.size := (by omega); have zn00 : ¬ w.heap.size = w1.heap.size := (by omega); have zm00 : ¬ w1.heap.size = w.heap.size := (by omega); have zl01 : w.heap.size < w1.heap.size + 1 := (by omega); have zn01 : ¬ w.heap.size = w1.heap.size + 1 := (by omega); have zm01 : ¬ w1.heap.size + 1 = w.heap.size := (by omega); have zl02 : w.heap.size < w1.heap.size + 1 + 1 := (by omega); have zn02 : ¬ w.heap.size = w1.heap.size + 1 + 1 := (by omega); have zm02 : ¬ w1.heap.size + 1 + 1 = w.heap.size := (by omega); have zl10 : w.heap.size + 1 < w1.heap.size := (by omega); have zn10 : ¬ w.heap.size + 1 = w1.heap.size := (by omega); have zm10 : ¬ w1.heap.size = w.heap.size + 1 := (by omega); have zl11 : w.heap.size + 1 < w1.heap.size + 1 := (by omega); have zn11 : ¬ w.heap.size + 1 = w1.heap.size + 1 := (by omega); have zm11 : ¬ w1.heap.size + 1 = w.heap.size + 1 := (by omega); have zl12 : w.heap.size + 1 < w1.heap.size + 1 + 1 := (by omega); have zn12 : ¬ w.heap.size + 1 = w1.heap.size + 1 + 1 := (by omega); have zm12 : ¬ w1.heap.size + 1 + 1 = w.heap.size + 1 := (by omega); have zl20 : w.heap.size + 1 + 1 < w1.heap.size := (by omega); have zn20 : ¬ w.heap.size + 1 + 1 = w1.heap.size := (by omega); have zm20 : ¬ w1.heap.size = w.heap.size + 1 + 1 := (by omega); have zl21 : w.heap.size + 1 + 1 < w1.heap.size + 1 := (by omega); have zn21 : ¬ w.heap.size + 1 + 1 = w1.heap.size + 1 := (by omega); have zm21 : ¬ w1.heap.size + 1 = w.heap.size + 1 + 1 := (by omega); have zl22 : w.heap.size + 1 + 1 < w1.heap.size + 1 + 1 := (by omega); have zn22 : ¬ w.heap.size + 1 + 1 = w1.heap.size + 1 + 1 := (by omega); have zm22 : ¬ w1.heap.size + 1 + 1 = w.heap.size + 1 + 1 := (by omega))))
    go_region_held3 (fun w' => w'.cell? ⟨(w1.heap.size + 1), 0, none⟩ = some (.int .i64 x1) ∧ w'.cell? ⟨(w1.heap.size + 1), 1, none⟩ = some (.int .i64 y1) ∧ w'.cell? ⟨(w1.heap.size + 1), 2, none⟩ = some (.int .i64 U) ∧ w'.cell? ⟨(w1.heap.size + 1), 3, none⟩ = some (.int .i64 V) ∧ w'.cell? ⟨(w1.heap.size + 1), 4, none⟩ = some (.int .i64 k) ∧ w'.cell? ⟨(w1.heap.size + 1 + 1), 0, none⟩ = some (.int .i64 U) ∧ w'.cell? ⟨(w1.heap.size + 1 + 1), 1, none⟩ = some (.int .i64 V) ∧ w'.cell? ⟨(w1.heap.size + 1 + 1), 2, none⟩ = some (.int .i64 x2) ∧ w'.cell? ⟨(w1.heap.size + 1 + 1), 3, none⟩ = some (.int .i64 y2) ∧ w'.cell? ⟨(w1.heap.size + 1 + 1), 4, none⟩ = some (.int .i64 (n - k))) (refine ⟨?_, ?_, ?_, ?_, ?_, ?_, ?_, ?_, ?_, ?_⟩ <;> first | (go_keep; done) | (simp [*, World.cell?_alloc_past, World.cell?_setCell_far]; done) | (simp [*, World.cell?_alloc_past, World.cell?_alloc_at, World.cell?_setCell_far]; done) | (go_simp; done)) (fail)
    go_wp2
    first | exact bodyPost_ret (v := .tuple #[.agg #[.int .i64 x1, .int .i64 y1, .int .i64 U, .int .i64 V, .int .i64 k], .agg #[.int .i64 U, .int .i64 V, .int .i64 x2, .int .i64 y2, .int .i64 (n - k)], .bool true]) (by simp [results, Try.results26, go_sem, *]) rfl ⟨rfl, (by repeat (first | with_reducible exact Below.refl _ _ | with_reducible assumption | with_reducible refine Below.drew ?_ | with_reducible refine below_drewN ?_ _ | with_reducible refine Below.alloc ?_ (by first | omega | (simp; done) | (simp; omega)) _ | with_reducible refine Below.setCell ?_ (by first | omega | (simp; done) | (simp; omega)) _ | with_reducible refine Below.trans ?_ (Below.mono (by assumption) (by first | omega | (simp; done) | (simp; omega)))))⟩

theorem split_any (x1 y1 x2 y2 n k : Int) (w : World) :
    Calls Try.prog 26 #[.agg #[.int .i64 x1, .int .i64 y1, .int .i64 x2, .int .i64 y2, .int .i64 n], .int .i64 k] w fun e w' => e = .returned (.tuple #[.agg #[.int .i64 (guardI (spOk x1 y1 x2 y2 n k) x1), .int .i64 (guardI (spOk x1 y1 x2 y2 n k) y1), .int .i64 (guardI (spOk x1 y1 x2 y2 n k) ((px x1 x2 n k).tdiv n)), .int .i64 (guardI (spOk x1 y1 x2 y2 n k) ((px y1 y2 n k).tdiv n)), .int .i64 (guardI (spOk x1 y1 x2 y2 n k) k)], .agg #[.int .i64 (guardI (spOk x1 y1 x2 y2 n k) ((px x1 x2 n k).tdiv n)), .int .i64 (guardI (spOk x1 y1 x2 y2 n k) ((px y1 y2 n k).tdiv n)), .int .i64 (guardI (spOk x1 y1 x2 y2 n k) x2), .int .i64 (guardI (spOk x1 y1 x2 y2 n k) y2), .int .i64 (guardI (spOk x1 y1 x2 y2 n k) (n - k))], .bool (spOk x1 y1 x2 y2 n k)]) ∧ Below w.heap.size w w' := by
  cases h1 : (plOk x1 y1 x2 y2 n k && wh (px x1 x2 n k) n && wh (px y1 y2 n k) n)
  · exact split_no x1 y1 x2 y2 n k h1 w
  · by_cases h2 : k = 0 ∨ k = n
    · exact split_end x1 y1 x2 y2 n k h1 h2 w
    · exact split_yes x1 y1 x2 y2 n k h1 (fun c => h2 (Or.inl c)) (fun c => h2 (Or.inr c)) w

end Go.Proofs.Ytagfleajkalgiaa
