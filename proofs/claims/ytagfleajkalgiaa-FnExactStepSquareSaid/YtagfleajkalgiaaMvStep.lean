/- The square of a step, both sides. No conditions. -/
import Derived.Test.YtagfleajkalgiaaMvGcd
import Derived.Deep.RegionHeld3
import Derived.Deep.DrawnRows
import Derived.IntWalk
namespace Go.Proofs.Ytagfleajkalgiaa
open Go.RowKit


attribute [local go_sem ↓] Go.wp_at_zero Go.wp_at_succ

/-- The square of a step, as a fraction in lowest terms. -/
def stepN (x1 y1 x2 y2 n : Int) : Int := lowN (sqr x1 y1 x2 y2).toNat (n * n).toNat
def stepD (x1 y1 x2 y2 n : Int) : Int := lowD (sqr x1 y1 x2 y2).toNat (n * n).toNat
theorem step_facts {x1 y1 x2 y2 n : Int} (h : isMv x1 y1 x2 y2 n = true) : ∃ A B : Nat, sqr x1 y1 x2 y2 = (A : Int) ∧ n * n = (B : Int) ∧ (sqr x1 y1 x2 y2).toNat = A ∧ (n * n).toNat = B ∧ A ≤ 4000000 ∧ B ≤ 4000000 ∧ 0 < B ∧ IntKind.i64.wrap (n * n) = (B : Int) := by
  obtain ⟨h1, h2, h3, h4⟩ := isMv_iff.1 h
  have b := sqr_bound h1 h2
  have c := sq_bound (a := n) (m := 64) (by omega) h4
  have d : 0 < n * n := Int.mul_pos (by omega) (by omega)
  obtain ⟨q, hq⟩ : ∃ q, q = n * n := ⟨_, rfl⟩
  rw [← hq] at c d ⊢
  refine ⟨(sqr x1 y1 x2 y2).toNat, q.toNat, by omega, by omega, rfl, rfl, by omega, by omega, by omega, ?_⟩
  rw [IntWalk.i64_in _ (by omega)]
  omega

set_option maxHeartbeats 1000000 in
theorem specStep_no (x1 y1 x2 y2 n : Int) (h1 : isMv x1 y1 x2 y2 n = false) (w : World) :
    Calls Try.prog 20 #[.agg #[.int .i64 x1, .int .i64 y1, .int .i64 x2, .int .i64 y2, .int .i64 n]] w fun e w' => e = .returned (.tuple #[.int .i64 (guardI (isMv x1 y1 x2 y2 n) (stepN x1 y1 x2 y2 n)), .int .i64 (guardI (isMv x1 y1 x2 y2 n) (stepD x1 y1 x2 y2 n)), .bool (isMv x1 y1 x2 y2 n)]) ∧ Below w.heap.size w w' := by
  obtain ⟨q1, q2, q3, q4, q5, q6, q7⟩ := nadd
  have HM := Lib.hid (fun W => mvGood_any x1 y1 x2 y2 n W)
  rw [h1] at HM
  rw [h1]
  clear h1
  all_goals
    go_enter Try.func20, Try.ntmps20
    go_wp2_with (first | (go_at_call 36; ((with_reducible refine (HM.out _).mono ?_); rintro e w1 ⟨rfl, hb1⟩; have hs1 := hb1.size; (try simp at hs1); (first | have hk4 := call_facts hl3 hb1 (by simp) | skip); (first | have hk3 := call_facts hl2 hb1 (by simp) | skip); (first | have hk2 := call_facts hl1 hb1 (by simp) | skip); have hk1 := call_facts (fun b h => h) hb1 (Nat.le_refl _); (first | have hl4 := hk4.1 | skip); (first | have hl3 := hk3.1 | skip); (first | have hl2 := hk2.1 | skip); have hl1 := hk1.1)))
    first | exact bodyPost_ret (v := .tuple #[.int .i64 0, .int .i64 0, .bool false]) (by simp [results, Try.results20, go_sem, *]) rfl ⟨rfl, (by repeat (first | exact Below.refl _ _ | assumption | refine Below.drew ?_ | refine below_drewN ?_ _ | refine Below.alloc ?_ (by first | omega | (simp; done) | (simp; omega)) _ | refine Below.setCell ?_ (by first | omega | (simp; done) | (simp; omega)) _ | refine Below.trans ?_ (Below.mono (by assumption) (by first | omega | (simp; done) | (simp; omega)))))⟩

set_option maxHeartbeats 2000000 in
theorem specStep_yes (x1 y1 x2 y2 n : Int) (h1 : isMv x1 y1 x2 y2 n = true) (w : World) :
    Calls Try.prog 20 #[.agg #[.int .i64 x1, .int .i64 y1, .int .i64 x2, .int .i64 y2, .int .i64 n]] w fun e w' => e = .returned (.tuple #[.int .i64 (guardI (isMv x1 y1 x2 y2 n) (stepN x1 y1 x2 y2 n)), .int .i64 (guardI (isMv x1 y1 x2 y2 n) (stepD x1 y1 x2 y2 n)), .bool (isMv x1 y1 x2 y2 n)]) ∧ Below w.heap.size w w' := by
  obtain ⟨q1, q2, q3, q4, q5, q6, q7⟩ := nadd
  have HM := Lib.hid (fun W => mvGood_any x1 y1 x2 y2 n W)
  rw [h1] at HM
  rw [h1]
  obtain ⟨A, B, e1, e2, e3, e4, e5, e6, e7, e8⟩ := step_facts h1
  obtain ⟨g1, g2, _, _⟩ := isMv_iff.1 h1
  have HSQ := Lib.hid (fun W => stSquare_any x1 y1 x2 y2 g1 g2 W)
  have HPT := Lib.hid (fun W => mvPart_any A B e5 e6 e7 W)
  rw [e1] at HSQ
  have f1 : stepN x1 y1 x2 y2 n = lowN A B := by unfold stepN; rw [e3, e4]
  have f2 : stepD x1 y1 x2 y2 n = lowD A B := by unfold stepD; rw [e3, e4]
  rw [f1, f2]
  obtain ⟨P, hP⟩ : ∃ P, P = lowN A B := ⟨_, rfl⟩
  obtain ⟨Q, hQ⟩ : ∃ Q, Q = lowD A B := ⟨_, rfl⟩
  rw [← hP, ← hQ] at HPT
  rw [← hP, ← hQ]
  clear h1 e1 e2 e3 e4 e5 e6 e7 g1 g2 f1 f2 hP hQ
  all_goals
    go_enter Try.func20, Try.ntmps20
    go_wp2_with (first | (go_at_call 36; ((with_reducible refine (HM.out _).mono ?_); rintro e w1 ⟨rfl, hb1⟩; have hs1 := hb1.size; (try simp at hs1); (first | have hk4 := call_facts hl3 hb1 (by simp) | skip); (first | have hk3 := call_facts hl2 hb1 (by simp) | skip); (first | have hk2 := call_facts hl1 hb1 (by simp) | skip); have hk1 := call_facts (fun b h => h) hb1 (Nat.le_refl _); (first | have hl4 := hk4.1 | skip); (first | have hl3 := hk3.1 | skip); (first | have hl2 := hk2.1 | skip); have hl1 := hk1.1)))
    go_region_held3 (fun w' => w'.cell? ⟨w.heap.size, 0, none⟩ = some (.int .i64 x1) ∧ w'.cell? ⟨w.heap.size, 1, none⟩ = some (.int .i64 y1) ∧ w'.cell? ⟨w.heap.size, 2, none⟩ = some (.int .i64 x2) ∧ w'.cell? ⟨w.heap.size, 3, none⟩ = some (.int .i64 y2) ∧ w'.cell? ⟨w.heap.size, 4, none⟩ = some (.int .i64 n)) (refine ⟨?_, ?_, ?_, ?_, ?_⟩ <;> first | (go_keep; done) | (simp [*, World.cell?_alloc_past, World.cell?_setCell_far]; done) | (simp [*, World.cell?_alloc_past, World.cell?_alloc_at, World.cell?_setCell_far]; done) | (go_simp; done)) (first | (go_at_call 45; ((with_reducible refine (HSQ.out _).mono ?_); rintro e w1 ⟨rfl, hb1⟩; have hs1 := hb1.size; (try simp at hs1); (first | have hk4 := call_facts hl3 hb1 (by simp) | skip); (first | have hk3 := call_facts hl2 hb1 (by simp) | skip); (first | have hk2 := call_facts hl1 hb1 (by simp) | skip); have hk1 := call_facts (fun b h => h) hb1 (Nat.le_refl _); (first | have hl4 := hk4.1 | skip); (first | have hl3 := hk3.1 | skip); (first | have hl2 := hk2.1 | skip); have hl1 := hk1.1)) | (go_at_call 44; ((with_reducible refine (HPT.out _).mono ?_); rintro e w1 ⟨rfl, hb1⟩; have hs1 := hb1.size; (try simp at hs1); (first | have hk4 := call_facts hl3 hb1 (by simp) | skip); (first | have hk3 := call_facts hl2 hb1 (by simp) | skip); (first | have hk2 := call_facts hl1 hb1 (by simp) | skip); have hk1 := call_facts (fun b h => h) hb1 (Nat.le_refl _); (first | have hl4 := hk4.1 | skip); (first | have hl3 := hk3.1 | skip); (first | have hl2 := hk2.1 | skip); have hl1 := hk1.1)))
    go_wp2
    first | exact bodyPost_ret (v := .tuple #[.int .i64 P, .int .i64 Q, .bool true]) (by simp [results, Try.results20, go_sem, *]) rfl ⟨rfl, (by repeat (first | exact Below.refl _ _ | assumption | refine Below.drew ?_ | refine below_drewN ?_ _ | refine Below.alloc ?_ (by first | omega | (simp; done) | (simp; omega)) _ | refine Below.setCell ?_ (by first | omega | (simp; done) | (simp; omega)) _ | refine Below.trans ?_ (Below.mono (by assumption) (by first | omega | (simp; done) | (simp; omega)))))⟩

theorem specStep_any (x1 y1 x2 y2 n : Int) (w : World) :
    Calls Try.prog 20 #[.agg #[.int .i64 x1, .int .i64 y1, .int .i64 x2, .int .i64 y2, .int .i64 n]] w fun e w' => e = .returned (.tuple #[.int .i64 (guardI (isMv x1 y1 x2 y2 n) (stepN x1 y1 x2 y2 n)), .int .i64 (guardI (isMv x1 y1 x2 y2 n) (stepD x1 y1 x2 y2 n)), .bool (isMv x1 y1 x2 y2 n)]) ∧ Below w.heap.size w w' := by
  cases h1 : isMv x1 y1 x2 y2 n
  · rw [← h1]; exact specStep_no x1 y1 x2 y2 n h1 w
  · rw [← h1]; exact specStep_yes x1 y1 x2 y2 n h1 w

set_option maxHeartbeats 1000000 in
theorem step_no (x1 y1 x2 y2 n : Int) (h1 : isMv x1 y1 x2 y2 n = false) (w : World) :
    Calls Try.prog 21 #[.agg #[.int .i64 x1, .int .i64 y1, .int .i64 x2, .int .i64 y2, .int .i64 n]] w fun e w' => e = .returned (.tuple #[.int .i64 (guardI (isMv x1 y1 x2 y2 n) (stepN x1 y1 x2 y2 n)), .int .i64 (guardI (isMv x1 y1 x2 y2 n) (stepD x1 y1 x2 y2 n)), .bool (isMv x1 y1 x2 y2 n)]) ∧ Below w.heap.size w w' := by
  obtain ⟨q1, q2, q3, q4, q5, q6, q7⟩ := nadd
  have HM := Lib.hid (fun W => isMove_any x1 y1 x2 y2 n W)
  rw [h1] at HM
  rw [h1]
  clear h1
  all_goals
    go_enter Try.func21, Try.ntmps21
    go_wp2_with (first | (go_at_call 14; ((with_reducible refine (HM.out _).mono ?_); rintro e w1 ⟨rfl, hb1⟩; have hs1 := hb1.size; (try simp at hs1); (first | have hk4 := call_facts hl3 hb1 (by simp) | skip); (first | have hk3 := call_facts hl2 hb1 (by simp) | skip); (first | have hk2 := call_facts hl1 hb1 (by simp) | skip); have hk1 := call_facts (fun b h => h) hb1 (Nat.le_refl _); (first | have hl4 := hk4.1 | skip); (first | have hl3 := hk3.1 | skip); (first | have hl2 := hk2.1 | skip); have hl1 := hk1.1)))
    first | exact bodyPost_ret (v := .tuple #[.int .i64 0, .int .i64 0, .bool false]) (by simp [results, Try.results21, go_sem, *]) rfl ⟨rfl, (by repeat (first | exact Below.refl _ _ | assumption | refine Below.drew ?_ | refine below_drewN ?_ _ | refine Below.alloc ?_ (by first | omega | (simp; done) | (simp; omega)) _ | refine Below.setCell ?_ (by first | omega | (simp; done) | (simp; omega)) _ | refine Below.trans ?_ (Below.mono (by assumption) (by first | omega | (simp; done) | (simp; omega)))))⟩

set_option maxHeartbeats 2000000 in
theorem step_yes (x1 y1 x2 y2 n : Int) (h1 : isMv x1 y1 x2 y2 n = true) (w : World) :
    Calls Try.prog 21 #[.agg #[.int .i64 x1, .int .i64 y1, .int .i64 x2, .int .i64 y2, .int .i64 n]] w fun e w' => e = .returned (.tuple #[.int .i64 (guardI (isMv x1 y1 x2 y2 n) (stepN x1 y1 x2 y2 n)), .int .i64 (guardI (isMv x1 y1 x2 y2 n) (stepD x1 y1 x2 y2 n)), .bool (isMv x1 y1 x2 y2 n)]) ∧ Below w.heap.size w w' := by
  obtain ⟨q1, q2, q3, q4, q5, q6, q7⟩ := nadd
  have HM := Lib.hid (fun W => isMove_any x1 y1 x2 y2 n W)
  rw [h1] at HM
  rw [h1]
  obtain ⟨A, B, e1, e2, e3, e4, e5, e6, e7, e8⟩ := step_facts h1
  obtain ⟨g1, g2, _, _⟩ := isMv_iff.1 h1
  have HSQ := Lib.hid (fun W => squareBetween_any x1 y1 x2 y2 g1 g2 W)
  have HPT := Lib.hid (fun W => lowest_any A B e5 e6 e7 W)
  rw [e1] at HSQ
  have f1 : stepN x1 y1 x2 y2 n = lowN A B := by unfold stepN; rw [e3, e4]
  have f2 : stepD x1 y1 x2 y2 n = lowD A B := by unfold stepD; rw [e3, e4]
  rw [f1, f2]
  obtain ⟨P, hP⟩ : ∃ P, P = lowN A B := ⟨_, rfl⟩
  obtain ⟨Q, hQ⟩ : ∃ Q, Q = lowD A B := ⟨_, rfl⟩
  rw [← hP, ← hQ] at HPT
  rw [← hP, ← hQ]
  clear h1 e1 e2 e3 e4 e5 e6 e7 g1 g2 f1 f2 hP hQ
  all_goals
    go_enter Try.func21, Try.ntmps21
    go_wp2_with (first | (go_at_call 14; ((with_reducible refine (HM.out _).mono ?_); rintro e w1 ⟨rfl, hb1⟩; have hs1 := hb1.size; (try simp at hs1); (first | have hk4 := call_facts hl3 hb1 (by simp) | skip); (first | have hk3 := call_facts hl2 hb1 (by simp) | skip); (first | have hk2 := call_facts hl1 hb1 (by simp) | skip); have hk1 := call_facts (fun b h => h) hb1 (Nat.le_refl _); (first | have hl4 := hk4.1 | skip); (first | have hl3 := hk3.1 | skip); (first | have hl2 := hk2.1 | skip); have hl1 := hk1.1)))
    go_region_held3 (fun w' => w'.cell? ⟨w.heap.size, 0, none⟩ = some (.int .i64 x1) ∧ w'.cell? ⟨w.heap.size, 1, none⟩ = some (.int .i64 y1) ∧ w'.cell? ⟨w.heap.size, 2, none⟩ = some (.int .i64 x2) ∧ w'.cell? ⟨w.heap.size, 3, none⟩ = some (.int .i64 y2) ∧ w'.cell? ⟨w.heap.size, 4, none⟩ = some (.int .i64 n)) (refine ⟨?_, ?_, ?_, ?_, ?_⟩ <;> first | (go_keep; done) | (simp [*, World.cell?_alloc_past, World.cell?_setCell_far]; done) | (simp [*, World.cell?_alloc_past, World.cell?_alloc_at, World.cell?_setCell_far]; done) | (go_simp; done)) (first | (go_at_call 47; ((with_reducible refine (HSQ.out _).mono ?_); rintro e w1 ⟨rfl, hb1⟩; have hs1 := hb1.size; (try simp at hs1); (first | have hk4 := call_facts hl3 hb1 (by simp) | skip); (first | have hk3 := call_facts hl2 hb1 (by simp) | skip); (first | have hk2 := call_facts hl1 hb1 (by simp) | skip); have hk1 := call_facts (fun b h => h) hb1 (Nat.le_refl _); (first | have hl4 := hk4.1 | skip); (first | have hl3 := hk3.1 | skip); (first | have hl2 := hk2.1 | skip); have hl1 := hk1.1)) | (go_at_call 46; ((with_reducible refine (HPT.out _).mono ?_); rintro e w1 ⟨rfl, hb1⟩; have hs1 := hb1.size; (try simp at hs1); (first | have hk4 := call_facts hl3 hb1 (by simp) | skip); (first | have hk3 := call_facts hl2 hb1 (by simp) | skip); (first | have hk2 := call_facts hl1 hb1 (by simp) | skip); have hk1 := call_facts (fun b h => h) hb1 (Nat.le_refl _); (first | have hl4 := hk4.1 | skip); (first | have hl3 := hk3.1 | skip); (first | have hl2 := hk2.1 | skip); have hl1 := hk1.1)))
    go_wp2
    first | exact bodyPost_ret (v := .tuple #[.int .i64 P, .int .i64 Q, .bool true]) (by simp [results, Try.results21, go_sem, *]) rfl ⟨rfl, (by repeat (first | exact Below.refl _ _ | assumption | refine Below.drew ?_ | refine below_drewN ?_ _ | refine Below.alloc ?_ (by first | omega | (simp; done) | (simp; omega)) _ | refine Below.setCell ?_ (by first | omega | (simp; done) | (simp; omega)) _ | refine Below.trans ?_ (Below.mono (by assumption) (by first | omega | (simp; done) | (simp; omega)))))⟩

theorem step_any (x1 y1 x2 y2 n : Int) (w : World) :
    Calls Try.prog 21 #[.agg #[.int .i64 x1, .int .i64 y1, .int .i64 x2, .int .i64 y2, .int .i64 n]] w fun e w' => e = .returned (.tuple #[.int .i64 (guardI (isMv x1 y1 x2 y2 n) (stepN x1 y1 x2 y2 n)), .int .i64 (guardI (isMv x1 y1 x2 y2 n) (stepD x1 y1 x2 y2 n)), .bool (isMv x1 y1 x2 y2 n)]) ∧ Below w.heap.size w w' := by
  cases h1 : isMv x1 y1 x2 y2 n
  · rw [← h1]; exact step_no x1 y1 x2 y2 n h1 w
  · rw [← h1]; exact step_yes x1 y1 x2 y2 n h1 w

end Go.Proofs.Ytagfleajkalgiaa
