/- Near arcs, places on arcs, quarter turns, both sides. Conditions: those written in each theorem. -/
import Derived.Test.YtjdpbjpeohdoiaaArOne
import Derived.Deep.RegionHeld3
import Derived.Deep.DrawnRows
import Derived.IntWalk
import Derived.StillTailTactics
namespace Go.Proofs.Ytjdpbjpeohdoiaa
open Go.RowKit


attribute [local go_sem ↓] Go.wp_at_zero Go.wp_at_succ

def nearK (x1 y1 r x2 y2 s : Int) : Bool := arOk x1 y1 r && onField x2 y2 && inB 0 s r
def nearV (x1 y1 r x2 y2 s : Int) : Bool := inB ((r - s) * (r - s)) (sqr x1 y1 x2 y2) ((r + s) * (r + s))
theorem arOk_parts {x y r : Int} (h : arOk x y r = true) : onField x y = true ∧ 1 ≤ r ∧ r ≤ 1400 := by
  unfold arOk at h
  rw [Bool.and_eq_true, inB_iff] at h
  exact h

set_option maxHeartbeats 2000000 in
theorem specNearArc_any (x1 y1 r x2 y2 s : Int) (w : World) :
    Calls Try.prog 26 #[.agg #[.int .i64 x1, .int .i64 y1], .int .i64 r, .agg #[.int .i64 x2, .int .i64 y2], .int .i64 s] w fun e w' => e = .returned (.tuple #[.bool (nearK x1 y1 r x2 y2 s && nearV x1 y1 r x2 y2 s), .bool (nearK x1 y1 r x2 y2 s)]) ∧ Below w.heap.size w w' := by
  obtain ⟨q1, q2, q3, q4, q5, q6, q7⟩ := nadd
  have hnk : nearK x1 y1 r x2 y2 s = (arOk x1 y1 r && onField x2 y2 && inB 0 s r) := rfl
  have hnv : nearV x1 y1 r x2 y2 s = inB ((r - s) * (r - s)) (sqr x1 y1 x2 y2) ((r + s) * (r + s)) := rfl
  have Hnk := Lib.hid hnk
  have Hnv := Lib.hid hnv
  clear hnk hnv
  cases h1 : arOk x1 y1 r <;> cases h2 : onField x2 y2 <;> cases h3 : inB 0 s r
  case' true.true.true =>
    obtain ⟨o1, a1, a2⟩ := arOk_parts h1
    obtain ⟨a3, a4⟩ := inB_iff.1 h3
    obtain ⟨b1, b2⟩ := sq_bd (r := r - s) (by omega) (by omega)
    obtain ⟨b3, b4⟩ := sq_bd (r := r + s) (by omega) (by omega)
    have v1 : IntKind.i64.wrap (r - s) = r - s := IntWalk.i64_in _ (by omega)
    have v2 : IntKind.i64.wrap (r + s) = r + s := IntWalk.i64_in _ (by omega)
    have v3 : IntKind.i64.wrap ((r - s) * (r - s)) = (r - s) * (r - s) := IntWalk.i64_in _ (by omega)
    have v4 : IntKind.i64.wrap ((r + s) * (r + s)) = (r + s) * (r + s) := IntWalk.i64_in _ (by omega)
    have HQ := Lib.hid (fun W => squareBetween_any x1 y1 x2 y2 o1 h2 W)
    have HZ := Lib.hid (fun W => stSquare_any x1 y1 x2 y2 o1 h2 W)
  all_goals
    go_enter Try.func26, Try.ntmps26
    go_wp2_with (first | (go_at_call 44; (refine (arGood_any _ _ _ _).mono ?_; rintro e w1 ⟨rfl, hb1⟩; have hs1 := hb1.size; (try simp at hs1); (first | have hk4 := call_facts hl3 hb1 (by simp) | skip); (first | have hk3 := call_facts hl2 hb1 (by simp) | skip); (first | have hk2 := call_facts hl1 hb1 (by simp) | skip); have hk1 := call_facts (fun b h => h) hb1 (Nat.le_refl _); (first | have hl4 := hk4.1 | skip); (first | have hl3 := hk3.1 | skip); (first | have hl2 := hk2.1 | skip); have hl1 := hk1.1)) | (go_at_call 55; (refine (stGood_any _ _ _).mono ?_; rintro e w1 ⟨rfl, hb1⟩; have hs1 := hb1.size; (try simp at hs1); (first | have hk4 := call_facts hl3 hb1 (by simp) | skip); (first | have hk3 := call_facts hl2 hb1 (by simp) | skip); (first | have hk2 := call_facts hl1 hb1 (by simp) | skip); have hk1 := call_facts (fun b h => h) hb1 (Nat.le_refl _); (first | have hl4 := hk4.1 | skip); (first | have hl3 := hk3.1 | skip); (first | have hl2 := hk2.1 | skip); have hl1 := hk1.1)) | (go_at_call 53; (refine (HZ.out _).mono ?_; rintro e w1 ⟨rfl, hb1⟩; have hs1 := hb1.size; (try simp at hs1); (first | have hk4 := call_facts hl3 hb1 (by simp) | skip); (first | have hk3 := call_facts hl2 hb1 (by simp) | skip); (first | have hk2 := call_facts hl1 hb1 (by simp) | skip); have hk1 := call_facts (fun b h => h) hb1 (Nat.le_refl _); (first | have hl4 := hk4.1 | skip); (first | have hl3 := hk3.1 | skip); (first | have hl2 := hk2.1 | skip); have hl1 := hk1.1)) | (go_at_call 40; (refine (l1In_any _ _ _ _).mono ?_; rintro e w' ⟨rfl, rfl⟩)))
    first | exact bodyPost_ret (v := .tuple #[.bool false, .bool false]) (by simp [results, Try.results26, go_sem, *]) rfl ⟨(by rw [Hnk.out, Hnv.out, h1, h2, h3]; rfl), (by repeat (first | exact Below.refl _ _ | assumption | refine Below.drew ?_ | refine below_drewN ?_ _ | refine Below.alloc ?_ (by first | omega | (simp; done) | (simp; omega)) _ | refine Below.setCell ?_ (by first | omega | (simp; done) | (simp; omega)) _ | refine Below.trans ?_ (Below.mono (by assumption) (by first | omega | (simp; done) | (simp; omega)))))⟩ | exact bodyPost_ret (v := .tuple #[.bool (inB ((r - s) * (r - s)) (sqr x1 y1 x2 y2) ((r + s) * (r + s))), .bool true]) (by simp [results, Try.results26, go_sem, *]) rfl ⟨(by rw [Hnk.out, Hnv.out, h1, h2, h3]; rfl), (by repeat (first | exact Below.refl _ _ | assumption | refine Below.drew ?_ | refine below_drewN ?_ _ | refine Below.alloc ?_ (by first | omega | (simp; done) | (simp; omega)) _ | refine Below.setCell ?_ (by first | omega | (simp; done) | (simp; omega)) _ | refine Below.trans ?_ (Below.mono (by assumption) (by first | omega | (simp; done) | (simp; omega)))))⟩

set_option maxHeartbeats 2000000 in
theorem nearArc_any (x1 y1 r x2 y2 s : Int) (w : World) :
    Calls Try.prog 27 #[.agg #[.int .i64 x1, .int .i64 y1], .int .i64 r, .agg #[.int .i64 x2, .int .i64 y2], .int .i64 s] w fun e w' => e = .returned (.tuple #[.bool (nearK x1 y1 r x2 y2 s && nearV x1 y1 r x2 y2 s), .bool (nearK x1 y1 r x2 y2 s)]) ∧ Below w.heap.size w w' := by
  obtain ⟨q1, q2, q3, q4, q5, q6, q7⟩ := nadd
  have hnk : nearK x1 y1 r x2 y2 s = (arOk x1 y1 r && onField x2 y2 && inB 0 s r) := rfl
  have hnv : nearV x1 y1 r x2 y2 s = inB ((r - s) * (r - s)) (sqr x1 y1 x2 y2) ((r + s) * (r + s)) := rfl
  have Hnk := Lib.hid hnk
  have Hnv := Lib.hid hnv
  clear hnk hnv
  cases h1 : arOk x1 y1 r <;> cases h2 : onField x2 y2 <;> cases h3 : inB 0 s r
  case' true.true.true =>
    obtain ⟨o1, a1, a2⟩ := arOk_parts h1
    obtain ⟨a3, a4⟩ := inB_iff.1 h3
    obtain ⟨b1, b2⟩ := sq_bd (r := r - s) (by omega) (by omega)
    obtain ⟨b3, b4⟩ := sq_bd (r := r + s) (by omega) (by omega)
    have v1 : IntKind.i64.wrap (r - s) = r - s := IntWalk.i64_in _ (by omega)
    have v2 : IntKind.i64.wrap (r + s) = r + s := IntWalk.i64_in _ (by omega)
    have v3 : IntKind.i64.wrap ((r - s) * (r - s)) = (r - s) * (r - s) := IntWalk.i64_in _ (by omega)
    have v4 : IntKind.i64.wrap ((r + s) * (r + s)) = (r + s) * (r + s) := IntWalk.i64_in _ (by omega)
    have HQ := Lib.hid (fun W => squareBetween_any x1 y1 x2 y2 o1 h2 W)
    have HZ := Lib.hid (fun W => stSquare_any x1 y1 x2 y2 o1 h2 W)
  all_goals
    go_enter Try.func27, Try.ntmps27
    go_wp2_with (first | (go_at_call 46; (refine (isArc_any _ _ _ _).mono ?_; rintro e w1 ⟨rfl, hb1⟩; have hs1 := hb1.size; (try simp at hs1); (first | have hk4 := call_facts hl3 hb1 (by simp) | skip); (first | have hk3 := call_facts hl2 hb1 (by simp) | skip); (first | have hk2 := call_facts hl1 hb1 (by simp) | skip); have hk1 := call_facts (fun b h => h) hb1 (Nat.le_refl _); (first | have hl4 := hk4.1 | skip); (first | have hl3 := hk3.1 | skip); (first | have hl2 := hk2.1 | skip); have hl1 := hk1.1)) | (go_at_call 56; (refine (isSpot_any _ _ _).mono ?_; rintro e w1 ⟨rfl, hb1⟩; have hs1 := hb1.size; (try simp at hs1); (first | have hk4 := call_facts hl3 hb1 (by simp) | skip); (first | have hk3 := call_facts hl2 hb1 (by simp) | skip); (first | have hk2 := call_facts hl1 hb1 (by simp) | skip); have hk1 := call_facts (fun b h => h) hb1 (Nat.le_refl _); (first | have hl4 := hk4.1 | skip); (first | have hl3 := hk3.1 | skip); (first | have hl2 := hk2.1 | skip); have hl1 := hk1.1)) | (go_at_call 57; (refine (HQ.out _).mono ?_; rintro e w1 ⟨rfl, hb1⟩; have hs1 := hb1.size; (try simp at hs1); (first | have hk4 := call_facts hl3 hb1 (by simp) | skip); (first | have hk3 := call_facts hl2 hb1 (by simp) | skip); (first | have hk2 := call_facts hl1 hb1 (by simp) | skip); have hk1 := call_facts (fun b h => h) hb1 (Nat.le_refl _); (first | have hl4 := hk4.1 | skip); (first | have hl3 := hk3.1 | skip); (first | have hl2 := hk2.1 | skip); have hl1 := hk1.1)) | (go_at_call 42; (refine (inRange_any _ _ _ _).mono ?_; rintro e w' ⟨rfl, rfl⟩)))
    first | exact bodyPost_ret (v := .tuple #[.bool false, .bool false]) (by simp [results, Try.results27, go_sem, *]) rfl ⟨(by rw [Hnk.out, Hnv.out, h1, h2, h3]; rfl), (by repeat (first | exact Below.refl _ _ | assumption | refine Below.drew ?_ | refine below_drewN ?_ _ | refine Below.alloc ?_ (by first | omega | (simp; done) | (simp; omega)) _ | refine Below.setCell ?_ (by first | omega | (simp; done) | (simp; omega)) _ | refine Below.trans ?_ (Below.mono (by assumption) (by first | omega | (simp; done) | (simp; omega)))))⟩ | exact bodyPost_ret (v := .tuple #[.bool (inB ((r - s) * (r - s)) (sqr x1 y1 x2 y2) ((r + s) * (r + s))), .bool true]) (by simp [results, Try.results27, go_sem, *]) rfl ⟨(by rw [Hnk.out, Hnv.out, h1, h2, h3]; rfl), (by repeat (first | exact Below.refl _ _ | assumption | refine Below.drew ?_ | refine below_drewN ?_ _ | refine Below.alloc ?_ (by first | omega | (simp; done) | (simp; omega)) _ | refine Below.setCell ?_ (by first | omega | (simp; done) | (simp; omega)) _ | refine Below.trans ?_ (Below.mono (by assumption) (by first | omega | (simp; done) | (simp; omega)))))⟩

theorem quarter_eq (x1 y1 x2 y2 : Int) : y1 + (x2 - x1) = y1 + x2 - x1 := by omega
def qtK (x1 y1 x2 y2 : Int) : Bool := onField x1 y1 && onField x2 y2 && onField (x1 - (y2 - y1)) (y1 + (x2 - x1))

set_option maxHeartbeats 2000000 in
theorem specQuarter_any (x1 y1 x2 y2 : Int) (w : World) :
    Calls Try.prog 30 #[.agg #[.int .i64 x1, .int .i64 y1], .agg #[.int .i64 x2, .int .i64 y2]] w fun e w' => e = .returned (.tuple #[.agg #[.int .i64 (guardI (qtK x1 y1 x2 y2) (x1 - (y2 - y1))), .int .i64 (guardI (qtK x1 y1 x2 y2) (y1 + (x2 - x1)))], .bool (qtK x1 y1 x2 y2)]) ∧ Below w.heap.size w w' := by
  obtain ⟨q1, q2, q3, q4, q5, q6, q7⟩ := nadd
  have hqk : qtK x1 y1 x2 y2 = (onField x1 y1 && onField x2 y2 && onField (x1 - (y2 - y1)) (y1 + x2 - x1)) := by rw [show y1 + x2 - x1 = y1 + (x2 - x1) by omega]; rfl
  have Hqk := Lib.hid hqk
  clear hqk
  have hI := fun W => stIf_any (x1 - (y2 - y1)) (y1 + x2 - x1) W
  have he : y1 + (x2 - x1) = y1 + x2 - x1 := by omega
  rw [he]
  have gg := guardI_facts
  obtain ⟨gt, gf⟩ := gg
  clear he
  cases h1 : onField x1 y1 <;> cases h2 : onField x2 y2 <;> cases h3 : onField (x1 - (y2 - y1)) (y1 + x2 - x1)
  all_goals
    rw [h3] at hI
    have HI := Lib.hid hI
    clear hI
  case' true.true.false => obtain ⟨⟨a1, a2⟩, a3, a4⟩ := onField_iff.1 h1; obtain ⟨⟨b1, b2⟩, b3, b4⟩ := onField_iff.1 h2
  case' true.true.true => obtain ⟨⟨a1, a2⟩, a3, a4⟩ := onField_iff.1 h1; obtain ⟨⟨b1, b2⟩, b3, b4⟩ := onField_iff.1 h2
  all_goals
    go_enter Try.func30, Try.ntmps30
    go_wp2_with (first | (go_at_call 52; (refine (stTwo_any _ _ _ _ _).mono ?_; rintro e w1 ⟨rfl, hb1⟩; have hs1 := hb1.size; (try simp at hs1); (first | have hk4 := call_facts hl3 hb1 (by simp) | skip); (first | have hk3 := call_facts hl2 hb1 (by simp) | skip); (first | have hk2 := call_facts hl1 hb1 (by simp) | skip); have hk1 := call_facts (fun b h => h) hb1 (Nat.le_refl _); (first | have hl4 := hk4.1 | skip); (first | have hl3 := hk3.1 | skip); (first | have hl2 := hk2.1 | skip); have hl1 := hk1.1)) | (go_at_call 45; (refine (HI.out _).mono ?_; rintro e w1 ⟨rfl, hb1⟩; have hs1 := hb1.size; (try simp at hs1); (first | have hk4 := call_facts hl3 hb1 (by simp) | skip); (first | have hk3 := call_facts hl2 hb1 (by simp) | skip); (first | have hk2 := call_facts hl1 hb1 (by simp) | skip); have hk1 := call_facts (fun b h => h) hb1 (Nat.le_refl _); (first | have hl4 := hk4.1 | skip); (first | have hl3 := hk3.1 | skip); (first | have hl2 := hk2.1 | skip); have hl1 := hk1.1)))
    first | exact bodyPost_ret (v := .tuple #[.agg #[.int .i64 0, .int .i64 0], .bool false]) (by simp [results, Try.results30, go_sem, *]) rfl ⟨(by rw [Hqk.out, h1, h2, h3]; rfl), (by repeat (first | exact Below.refl _ _ | assumption | refine Below.drew ?_ | refine below_drewN ?_ _ | refine Below.alloc ?_ (by first | omega | (simp; done) | (simp; omega)) _ | refine Below.setCell ?_ (by first | omega | (simp; done) | (simp; omega)) _ | refine Below.trans ?_ (Below.mono (by assumption) (by first | omega | (simp; done) | (simp; omega)))))⟩ | exact bodyPost_ret (v := .tuple #[.agg #[.int .i64 (x1 - (y2 - y1)), .int .i64 (y1 + x2 - x1)], .bool true]) (by simp [results, Try.results30, go_sem, *]) rfl ⟨(by rw [Hqk.out, h1, h2, h3]; rfl), (by repeat (first | exact Below.refl _ _ | assumption | refine Below.drew ?_ | refine below_drewN ?_ _ | refine Below.alloc ?_ (by first | omega | (simp; done) | (simp; omega)) _ | refine Below.setCell ?_ (by first | omega | (simp; done) | (simp; omega)) _ | refine Below.trans ?_ (Below.mono (by assumption) (by first | omega | (simp; done) | (simp; omega)))))⟩

set_option maxHeartbeats 2000000 in
theorem quarter_any (x1 y1 x2 y2 : Int) (w : World) :
    Calls Try.prog 31 #[.agg #[.int .i64 x1, .int .i64 y1], .agg #[.int .i64 x2, .int .i64 y2]] w fun e w' => e = .returned (.tuple #[.agg #[.int .i64 (guardI (qtK x1 y1 x2 y2) (x1 - (y2 - y1))), .int .i64 (guardI (qtK x1 y1 x2 y2) (y1 + (x2 - x1)))], .bool (qtK x1 y1 x2 y2)]) ∧ Below w.heap.size w w' := by
  obtain ⟨q1, q2, q3, q4, q5, q6, q7⟩ := nadd
  have hqk : qtK x1 y1 x2 y2 = (onField x1 y1 && onField x2 y2 && onField (x1 - (y2 - y1)) (y1 + (x2 - x1))) := by rw [show y1 + (x2 - x1) = y1 + (x2 - x1) by omega]; rfl
  have Hqk := Lib.hid hqk
  clear hqk
  have hI := fun W => spotOf_any (x1 - (y2 - y1)) (y1 + (x2 - x1)) W
  have he : y1 + (x2 - x1) = y1 + (x2 - x1) := by omega
  rw [he]
  have gg := guardI_facts
  obtain ⟨gt, gf⟩ := gg
  clear he
  cases h1 : onField x1 y1 <;> cases h2 : onField x2 y2 <;> cases h3 : onField (x1 - (y2 - y1)) (y1 + (x2 - x1))
  all_goals
    rw [h3] at hI
    have HI := Lib.hid hI
    clear hI
  case' true.true.false => obtain ⟨⟨a1, a2⟩, a3, a4⟩ := onField_iff.1 h1; obtain ⟨⟨b1, b2⟩, b3, b4⟩ := onField_iff.1 h2
  case' true.true.true => obtain ⟨⟨a1, a2⟩, a3, a4⟩ := onField_iff.1 h1; obtain ⟨⟨b1, b2⟩, b3, b4⟩ := onField_iff.1 h2
  all_goals
    go_enter Try.func31, Try.ntmps31
    go_wp2_with (first | (go_at_call 56; (refine (isSpot_any _ _ _).mono ?_; rintro e w1 ⟨rfl, hb1⟩; have hs1 := hb1.size; (try simp at hs1); (first | have hk4 := call_facts hl3 hb1 (by simp) | skip); (first | have hk3 := call_facts hl2 hb1 (by simp) | skip); (first | have hk2 := call_facts hl1 hb1 (by simp) | skip); have hk1 := call_facts (fun b h => h) hb1 (Nat.le_refl _); (first | have hl4 := hk4.1 | skip); (first | have hl3 := hk3.1 | skip); (first | have hl2 := hk2.1 | skip); have hl1 := hk1.1)) | (go_at_call 47; (refine (HI.out _).mono ?_; rintro e w1 ⟨rfl, hb1⟩; have hs1 := hb1.size; (try simp at hs1); (first | have hk4 := call_facts hl3 hb1 (by simp) | skip); (first | have hk3 := call_facts hl2 hb1 (by simp) | skip); (first | have hk2 := call_facts hl1 hb1 (by simp) | skip); have hk1 := call_facts (fun b h => h) hb1 (Nat.le_refl _); (first | have hl4 := hk4.1 | skip); (first | have hl3 := hk3.1 | skip); (first | have hl2 := hk2.1 | skip); have hl1 := hk1.1)))
    first | exact bodyPost_ret (v := .tuple #[.agg #[.int .i64 0, .int .i64 0], .bool false]) (by simp [results, Try.results31, go_sem, *]) rfl ⟨(by rw [Hqk.out, h1, h2, h3]; rfl), (by repeat (first | exact Below.refl _ _ | assumption | refine Below.drew ?_ | refine below_drewN ?_ _ | refine Below.alloc ?_ (by first | omega | (simp; done) | (simp; omega)) _ | refine Below.setCell ?_ (by first | omega | (simp; done) | (simp; omega)) _ | refine Below.trans ?_ (Below.mono (by assumption) (by first | omega | (simp; done) | (simp; omega)))))⟩ | exact bodyPost_ret (v := .tuple #[.agg #[.int .i64 (x1 - (y2 - y1)), .int .i64 (y1 + (x2 - x1))], .bool true]) (by simp [results, Try.results31, go_sem, *]) rfl ⟨(by rw [Hqk.out, h1, h2, h3]; rfl), (by repeat (first | exact Below.refl _ _ | assumption | refine Below.drew ?_ | refine below_drewN ?_ _ | refine Below.alloc ?_ (by first | omega | (simp; done) | (simp; omega)) _ | refine Below.setCell ?_ (by first | omega | (simp; done) | (simp; omega)) _ | refine Below.trans ?_ (Below.mono (by assumption) (by first | omega | (simp; done) | (simp; omega)))))⟩

end Go.Proofs.Ytjdpbjpeohdoiaa
