/- Rounded and whole places of moves. Conditions: those written in each theorem. -/
import Derived.Test.YtagfleajkalgiaaMvAt
import Derived.Deep.RegionHeld3
import Derived.Deep.DrawnRows
import Derived.IntWalk
import Derived.StillTailTactics
namespace Go.Proofs.Ytagfleajkalgiaa
open Go.RowKit


attribute [local go_sem ↓] Go.wp_at_zero Go.wp_at_succ

/-- Rounding of a place within bounds. -/
theorem rnd_facts {p n : Int} (h0 : 0 ≤ p) (h1 : p ≤ 81920) (n0 : 1 ≤ n) (n1 : n ≤ 64) : 0 ≤ rnd p n ∧ rnd p n ≤ 163904 ∧ (2 * p + n).tdiv (2 * n) = rnd p n := by
  unfold rnd
  rw [Int.tdiv_eq_ediv_of_nonneg (by omega)]
  refine ⟨Int.ediv_nonneg (by omega) (by omega), ?_, rfl⟩
  have := Int.ediv_le_self (a := 2 * p + n) (2 * n) (by omega)
  omega
/-- Is the place whole? -/
def wh (p n : Int) : Bool := decide (p.tmod n = 0)
theorem wh_quo {p n : Int} (h0 : 0 ≤ p) (n0 : 1 ≤ n) (h : wh p n = true) : rnd p n = p.tdiv n := by
  have e1 : p.tmod n = 0 := of_decide_eq_true h
  have e2 := Int.tmod_add_mul_tdiv p n
  rw [e1] at e2
  obtain ⟨q, hq⟩ : ∃ q, q = p.tdiv n := ⟨_, rfl⟩
  rw [← hq] at e2 ⊢
  unfold rnd
  have e3 : 2 * p + n = n + q * (2 * n) := by
    rw [← e2, show q * (2 * n) = 2 * (n * q) by rw [Int.mul_left_comm, Int.mul_comm q n]]
    omega
  rw [e3, Int.add_mul_ediv_right _ _ (by omega)]
  rw [Int.ediv_eq_zero_of_lt (by omega) (by omega)]
  omega
theorem quo_bound {p n : Int} (h0 : 0 ≤ p) (h1 : p ≤ 81920) (n0 : 1 ≤ n) : 0 ≤ p.tdiv n ∧ p.tdiv n ≤ 81920 := by
  rw [Int.tdiv_eq_ediv_of_nonneg h0]
  exact ⟨Int.ediv_nonneg h0 (by omega), Int.le_trans (Int.ediv_le_self _ h0) h1⟩
theorem exQ_any (p n : Int) (h0 : 0 ≤ p) (h1 : p ≤ 81920) (n0 : 1 ≤ n) (w : World) :
    Calls Try.prog 61 #[.int .i64 p, .int .i64 n] w fun e w' => e = .returned (.tuple #[.int .i64 (guardI (wh p n) (p.tdiv n)), .bool (wh p n)]) ∧ w = w' := by
  obtain ⟨hb0, hb1⟩ := quo_bound h0 h1 n0
  have v1 : wrap64 (p.tdiv n) = p.tdiv n := IntWalk.wrap64_in _ ⟨by omega, by omega⟩
  have z1 : (n == 0) = false := by simp; omega
  obtain ⟨q, hq⟩ : ∃ q, q = p.tdiv n := ⟨_, rfl⟩
  obtain ⟨r, hr⟩ : ∃ r, r = p.tmod n := ⟨_, rfl⟩
  unfold wh
  have z2 : ¬ n = 0 := by omega
  clear h0 h1 n0 hb0 hb1
  by_cases h : r = 0
  · have k1 : (r == 0) = true := by simpa using h
    have k2 : (r != 0) = false := by simpa using h
    have k3 := h
    rw [hr] at k1 k2 k3
    rw [show decide (p.tmod n = 0) = true by rw [← hr]; simpa using h]
    clear h hr hq
    go_enter Try.func61, Try.ntmps61
    go_wp2
    go_ret2
    first | exact ⟨rfl, rfl⟩ | exact ⟨by rw [v1]; rfl, rfl⟩
  · have k1 : (r == 0) = false := by simpa using h
    have k2 : (r != 0) = true := by simpa using h
    have k3 := h
    rw [hr] at k1 k2 k3
    rw [show decide (p.tmod n = 0) = false by rw [← hr]; simpa using h]
    clear h hr hq
    go_enter Try.func61, Try.ntmps61
    go_wp2
    go_ret2
    first | exact ⟨rfl, rfl⟩ | exact ⟨by rw [v1]; rfl, rfl⟩

set_option maxHeartbeats 2000000 in
theorem mvRound_any (x1 y1 x2 y2 n k : Int) (h : isMv x1 y1 x2 y2 n = true) (hk0 : 0 ≤ k) (hk1 : k ≤ n) (w : World) :
    Calls Try.prog 42 #[.agg #[.int .i64 x1, .int .i64 y1, .int .i64 x2, .int .i64 y2, .int .i64 n], .int .i64 k] w fun e w' => e = .returned (.agg #[.int .i64 (rnd (px x1 x2 n k) n), .int .i64 (rnd (px y1 y2 n k) n)]) ∧ Below w.heap.size w w' := by
  obtain ⟨q1, q2, q3, q4, q5, q6, q7⟩ := nadd
  obtain ⟨⟨n0, n1⟩, ⟨p0, p1⟩, ⟨r0, r1⟩⟩ := mv_facts h hk0 hk1
  have HAT := Lib.hid (fun W => mvAt_any x1 y1 x2 y2 n k h hk0 hk1 W)
  obtain ⟨X, hX⟩ : ∃ X, X = px x1 x2 n k := ⟨_, rfl⟩
  obtain ⟨Y, hY⟩ : ∃ Y, Y = px y1 y2 n k := ⟨_, rfl⟩
  rw [← hX] at HAT p0 p1
  rw [← hY] at HAT r0 r1
  rw [← hX, ← hY]
  clear hX hY h hk0 hk1
  obtain ⟨a0, a1, a2⟩ := rnd_facts p0 p1 n0 n1
  obtain ⟨b0, b1, b2⟩ := rnd_facts r0 r1 n0 n1
  have v1 : wrap64 ((2 * X + n).tdiv (2 * n)) = rnd X n := by rw [a2]; exact IntWalk.wrap64_in _ ⟨by omega, by omega⟩
  have v1' : IntKind.i64.wrap ((2 * X + n).tdiv (2 * n)) = rnd X n := by rw [a2]; exact IntWalk.i64_in _ (by omega)
  have v2 : wrap64 ((2 * Y + n).tdiv (2 * n)) = rnd Y n := by rw [b2]; exact IntWalk.wrap64_in _ ⟨by omega, by omega⟩
  have v2' : IntKind.i64.wrap ((2 * Y + n).tdiv (2 * n)) = rnd Y n := by rw [b2]; exact IntWalk.i64_in _ (by omega)
  obtain ⟨U, hU⟩ : ∃ U, U = rnd X n := ⟨_, rfl⟩
  obtain ⟨V, hV⟩ : ∃ V, V = rnd Y n := ⟨_, rfl⟩
  rw [← hU] at v1 v1'
  rw [← hV] at v2 v2'
  rw [← hU, ← hV]
  clear a0 a1 a2 b0 b1 b2 hU hV
  have g1 : IntKind.i64.wrap (2 * X) = 2 * X := IntWalk.i64_in _ (by omega)
  have g2 : IntKind.i64.wrap (2 * X + n) = 2 * X + n := IntWalk.i64_in _ (by omega)
  have g3 : IntKind.i64.wrap (2 * Y) = 2 * Y := IntWalk.i64_in _ (by omega)
  have g4 : IntKind.i64.wrap (2 * Y + n) = 2 * Y + n := IntWalk.i64_in _ (by omega)
  have g5 : IntKind.i64.wrap (2 * n) = 2 * n := IntWalk.i64_in _ (by omega)
  have z1 : (2 * n == 0) = false := by simp; omega
  have z2 : ¬ 2 * n = 0 := by omega
  all_goals
    go_enter Try.func42, Try.ntmps42
    go_wp2_with (first | (go_at_call 41; (refine (HAT.out _).mono ?_; rintro e w1 ⟨rfl, hb1⟩; have hs1 := hb1.size; (try simp at hs1); (first | have hk4 := call_facts hl3 hb1 (by simp) | skip); (first | have hk3 := call_facts hl2 hb1 (by simp) | skip); (first | have hk2 := call_facts hl1 hb1 (by simp) | skip); have hk1 := call_facts (fun b h => h) hb1 (Nat.le_refl _); (first | have hl4 := hk4.1 | skip); (first | have hl3 := hk3.1 | skip); (first | have hl2 := hk2.1 | skip); have hl1 := hk1.1)))
    refine wp_region_still_tail 18 (by kernel_rfl) (by kernel_rfl) ?_
    simp only [List.take_succ_cons, List.take_zero, List.drop_succ_cons, List.drop_zero]
    change wpStill _ _ (World.drew _) _ _ _
    repeat (first | still_step)
    refine wpStill_nil ?_
    change wpList _ _ _ _ _ (World.drew _)
    go_wp2
    first | exact bodyPost_ret (v := .agg #[.int .i64 U, .int .i64 V]) (by simp [results, Try.results42, go_sem, *]) rfl ⟨rfl, (by repeat (first | exact Below.refl _ _ | assumption | refine Below.drew ?_ | refine below_drewN ?_ _ | refine Below.alloc ?_ (by first | omega | (simp; done) | (simp; omega)) _ | refine Below.setCell ?_ (by first | omega | (simp; done) | (simp; omega)) _ | refine Below.trans ?_ (Below.mono (by assumption) (by first | omega | (simp; done) | (simp; omega)))))⟩

set_option maxHeartbeats 1000000 in
theorem specRoundedAt_any (x1 y1 x2 y2 n k : Int) (w : World) :
    Calls Try.prog 17 #[.agg #[.int .i64 x1, .int .i64 y1, .int .i64 x2, .int .i64 y2, .int .i64 n], .int .i64 k] w fun e w' => e = .returned (.tuple #[.agg #[.int .i64 (guardI (plOk x1 y1 x2 y2 n k) (rnd (px x1 x2 n k) n)), .int .i64 (guardI (plOk x1 y1 x2 y2 n k) (rnd (px y1 y2 n k) n))], .bool (plOk x1 y1 x2 y2 n k)]) ∧ Below w.heap.size w w' := by
  obtain ⟨q1, q2, q3, q4, q5, q6, q7⟩ := nadd
  cases h1 : plOk x1 y1 x2 y2 n k
  case' true =>
    obtain ⟨h, hk0, hk1⟩ := plOk_iff.1 h1
    have HMR := Lib.hid (fun W => mvRound_any x1 y1 x2 y2 n k h hk0 hk1 W)
    clear h hk0 hk1
  all_goals
    obtain ⟨U, hU⟩ : ∃ U, U = rnd (px x1 x2 n k) n := ⟨_, rfl⟩
    obtain ⟨V, hV⟩ : ∃ V, V = rnd (px y1 y2 n k) n := ⟨_, rfl⟩
    try rw [← hU, ← hV] at HMR
    rw [← hU, ← hV]
    clear hU hV
    have HH := Lib.hid (fun W => mvHas_any x1 y1 x2 y2 n k W)
    rw [h1] at HH
    clear h1
  all_goals
    go_enter Try.func17, Try.ntmps17
    go_wp2_with (first | (go_at_call 40; (refine (HH.out _).mono ?_; rintro e w1 ⟨rfl, hb1⟩; have hs1 := hb1.size; (try simp at hs1); (first | have hk4 := call_facts hl3 hb1 (by simp) | skip); (first | have hk3 := call_facts hl2 hb1 (by simp) | skip); (first | have hk2 := call_facts hl1 hb1 (by simp) | skip); have hk1 := call_facts (fun b h => h) hb1 (Nat.le_refl _); (first | have hl4 := hk4.1 | skip); (first | have hl3 := hk3.1 | skip); (first | have hl2 := hk2.1 | skip); have hl1 := hk1.1)) | (go_at_call 42; (refine (HMR.out _).mono ?_; rintro e w1 ⟨rfl, hb1⟩; have hs1 := hb1.size; (try simp at hs1); (first | have hk4 := call_facts hl3 hb1 (by simp) | skip); (first | have hk3 := call_facts hl2 hb1 (by simp) | skip); (first | have hk2 := call_facts hl1 hb1 (by simp) | skip); have hk1 := call_facts (fun b h => h) hb1 (Nat.le_refl _); (first | have hl4 := hk4.1 | skip); (first | have hl3 := hk3.1 | skip); (first | have hl2 := hk2.1 | skip); have hl1 := hk1.1)))
    first | exact bodyPost_ret (v := .tuple #[.agg #[.int .i64 0, .int .i64 0], .bool false]) (by simp [results, Try.results17, go_sem, *]) rfl ⟨rfl, (by repeat (first | exact Below.refl _ _ | assumption | refine Below.drew ?_ | refine below_drewN ?_ _ | refine Below.alloc ?_ (by first | omega | (simp; done) | (simp; omega)) _ | refine Below.setCell ?_ (by first | omega | (simp; done) | (simp; omega)) _ | refine Below.trans ?_ (Below.mono (by assumption) (by first | omega | (simp; done) | (simp; omega)))))⟩ | exact bodyPost_ret (v := .tuple #[.agg #[.int .i64 U, .int .i64 V], .bool true]) (by simp [results, Try.results17, go_sem, *]) rfl ⟨rfl, (by repeat (first | exact Below.refl _ _ | assumption | refine Below.drew ?_ | refine below_drewN ?_ _ | refine Below.alloc ?_ (by first | omega | (simp; done) | (simp; omega)) _ | refine Below.setCell ?_ (by first | omega | (simp; done) | (simp; omega)) _ | refine Below.trans ?_ (Below.mono (by assumption) (by first | omega | (simp; done) | (simp; omega)))))⟩

set_option maxHeartbeats 1000000 in
theorem roundedAt_no (x1 y1 x2 y2 n k : Int) (h1 : plOk x1 y1 x2 y2 n k = false) (w : World) :
    Calls Try.prog 18 #[.agg #[.int .i64 x1, .int .i64 y1, .int .i64 x2, .int .i64 y2, .int .i64 n], .int .i64 k] w fun e w' => e = .returned (.tuple #[.agg #[.int .i64 (guardI (plOk x1 y1 x2 y2 n k) (rnd (px x1 x2 n k) n)), .int .i64 (guardI (plOk x1 y1 x2 y2 n k) (rnd (px y1 y2 n k) n))], .bool (plOk x1 y1 x2 y2 n k)]) ∧ Below w.heap.size w w' := by
  obtain ⟨q1, q2, q3, q4, q5, q6, q7⟩ := nadd
  rw [h1]
  have HPL := Lib.hid (fun W => placeAt_any x1 y1 x2 y2 n k W)
  rw [h1] at HPL
  clear h1
  obtain ⟨X, hX⟩ : ∃ X, X = px x1 x2 n k := ⟨_, rfl⟩
  obtain ⟨Y, hY⟩ : ∃ Y, Y = px y1 y2 n k := ⟨_, rfl⟩
  rw [← hX, ← hY] at HPL
  rw [← hX, ← hY]
  simp only [guardI_facts.1, guardI_facts.2] at HPL
  all_goals
    go_enter Try.func18, Try.ntmps18
    go_wp2_with (first | (go_at_call 16; (refine (HPL.out _).mono ?_; rintro e w1 ⟨rfl, hb1⟩; have hs1 := hb1.size; (try simp at hs1); (first | have hk4 := call_facts hl3 hb1 (by simp) | skip); (first | have hk3 := call_facts hl2 hb1 (by simp) | skip); (first | have hk2 := call_facts hl1 hb1 (by simp) | skip); have hk1 := call_facts (fun b h => h) hb1 (Nat.le_refl _); (first | have hl4 := hk4.1 | skip); (first | have hl3 := hk3.1 | skip); (first | have hl2 := hk2.1 | skip); have hl1 := hk1.1)))
    first | exact bodyPost_ret (v := .tuple #[.agg #[.int .i64 0, .int .i64 0], .bool false]) (by simp [results, Try.results18, go_sem, *]) rfl ⟨rfl, (by repeat (first | exact Below.refl _ _ | assumption | refine Below.drew ?_ | refine below_drewN ?_ _ | refine Below.alloc ?_ (by first | omega | (simp; done) | (simp; omega)) _ | refine Below.setCell ?_ (by first | omega | (simp; done) | (simp; omega)) _ | refine Below.trans ?_ (Below.mono (by assumption) (by first | omega | (simp; done) | (simp; omega)))))⟩

set_option maxHeartbeats 1000000 in
theorem roundedAt_yes (x1 y1 x2 y2 n k : Int) (h1 : plOk x1 y1 x2 y2 n k = true) (w : World) :
    Calls Try.prog 18 #[.agg #[.int .i64 x1, .int .i64 y1, .int .i64 x2, .int .i64 y2, .int .i64 n], .int .i64 k] w fun e w' => e = .returned (.tuple #[.agg #[.int .i64 (guardI (plOk x1 y1 x2 y2 n k) (rnd (px x1 x2 n k) n)), .int .i64 (guardI (plOk x1 y1 x2 y2 n k) (rnd (px y1 y2 n k) n))], .bool (plOk x1 y1 x2 y2 n k)]) ∧ Below w.heap.size w w' := by
  obtain ⟨q1, q2, q3, q4, q5, q6, q7⟩ := nadd
  rw [h1]
  obtain ⟨h, hk0, hk1⟩ := plOk_iff.1 h1
  obtain ⟨⟨n0, n1⟩, ⟨p0, p1⟩, ⟨r0, r1⟩⟩ := mv_facts h hk0 hk1
  have HPL := Lib.hid (fun W => placeAt_any x1 y1 x2 y2 n k W)
  rw [h1] at HPL
  clear h1
  obtain ⟨X, hX⟩ : ∃ X, X = px x1 x2 n k := ⟨_, rfl⟩
  obtain ⟨Y, hY⟩ : ∃ Y, Y = px y1 y2 n k := ⟨_, rfl⟩
  rw [← hX, ← hY] at HPL
  rw [← hX, ← hY]
  simp only [guardI_facts.1, guardI_facts.2] at HPL
  rw [← hX] at p0 p1
  rw [← hY] at r0 r1
  have HR := Lib.hid (fun p (hp : p = X ∨ p = Y) W => roundedQuotient_any p n (by omega) (by omega) (by omega) (by omega) W)
  clear h hk0 hk1 n0 n1 p0 p1 r0 r1 hX hY
  all_goals
    go_enter Try.func18, Try.ntmps18
    go_wp2_with (first | (go_at_call 16; (refine (HPL.out _).mono ?_; rintro e w1 ⟨rfl, hb1⟩; have hs1 := hb1.size; (try simp at hs1); (first | have hk4 := call_facts hl3 hb1 (by simp) | skip); (first | have hk3 := call_facts hl2 hb1 (by simp) | skip); (first | have hk2 := call_facts hl1 hb1 (by simp) | skip); have hk1 := call_facts (fun b h => h) hb1 (Nat.le_refl _); (first | have hl4 := hk4.1 | skip); (first | have hl3 := hk3.1 | skip); (first | have hl2 := hk2.1 | skip); have hl1 := hk1.1)))
    refine wp_region_still_tail 8 (by kernel_rfl) (by kernel_rfl) ?_
    simp only [List.take_succ_cons, List.take_zero, List.drop_succ_cons, List.drop_zero]
    change wpStill _ _ (World.drew _) _ _ _
    repeat (first | still_step | (still_call ((HR.out _ (by first | exact Or.inl rfl | exact Or.inr rfl) _).mono (fun _ _ h => ⟨h.1, h.2.symm⟩))))
    refine wpStill_nil ?_
    change wpList _ _ _ _ _ (World.drew _)
    go_wp2
    first | exact bodyPost_ret (v := .tuple #[.agg #[.int .i64 (rnd X n), .int .i64 (rnd Y n)], .bool true]) (by simp [results, Try.results18, go_sem, *]) rfl ⟨rfl, (by repeat (first | exact Below.refl _ _ | assumption | refine Below.drew ?_ | refine below_drewN ?_ _ | refine Below.alloc ?_ (by first | omega | (simp; done) | (simp; omega)) _ | refine Below.setCell ?_ (by first | omega | (simp; done) | (simp; omega)) _ | refine Below.trans ?_ (Below.mono (by assumption) (by first | omega | (simp; done) | (simp; omega)))))⟩

theorem roundedAt_any (x1 y1 x2 y2 n k : Int) (w : World) :
    Calls Try.prog 18 #[.agg #[.int .i64 x1, .int .i64 y1, .int .i64 x2, .int .i64 y2, .int .i64 n], .int .i64 k] w fun e w' => e = .returned (.tuple #[.agg #[.int .i64 (guardI (plOk x1 y1 x2 y2 n k) (rnd (px x1 x2 n k) n)), .int .i64 (guardI (plOk x1 y1 x2 y2 n k) (rnd (px y1 y2 n k) n))], .bool (plOk x1 y1 x2 y2 n k)]) ∧ Below w.heap.size w w' := by
  cases h1 : plOk x1 y1 x2 y2 n k
  · rw [← h1]; exact roundedAt_no x1 y1 x2 y2 n k h1 w
  · rw [← h1]; exact roundedAt_yes x1 y1 x2 y2 n k h1 w

set_option maxHeartbeats 1000000 in
theorem mvWhole_any (x1 y1 x2 y2 n k : Int) (h : isMv x1 y1 x2 y2 n = true) (hk0 : 0 ≤ k) (hk1 : k ≤ n) (w : World) :
    Calls Try.prog 49 #[.agg #[.int .i64 x1, .int .i64 y1, .int .i64 x2, .int .i64 y2, .int .i64 n], .int .i64 k] w fun e w' => e = .returned (.bool (wh (px x1 x2 n k) n && wh (px y1 y2 n k) n)) ∧ Below w.heap.size w w' := by
  obtain ⟨q1, q2, q3, q4, q5, q6, q7⟩ := nadd
  obtain ⟨⟨n0, n1⟩, ⟨p0, p1⟩, ⟨r0, r1⟩⟩ := mv_facts h hk0 hk1
  have HAT := Lib.hid (fun W => mvAt_any x1 y1 x2 y2 n k h hk0 hk1 W)
  obtain ⟨X, hX⟩ : ∃ X, X = px x1 x2 n k := ⟨_, rfl⟩
  obtain ⟨Y, hY⟩ : ∃ Y, Y = px y1 y2 n k := ⟨_, rfl⟩
  rw [← hX] at HAT
  rw [← hY] at HAT
  rw [← hX, ← hY]
  have z1 : (n == 0) = false := by simp; omega
  have z2 : ¬ n = 0 := by omega
  clear hX hY h hk0 hk1 n0 n1 p0 p1 r0 r1
  unfold wh
  by_cases c1 : X.tmod n = 0 <;> by_cases c2 : Y.tmod n = 0
  all_goals
    go_enter Try.func49, Try.ntmps49
    go_wp2_with (first | (go_at_call 41; (refine (HAT.out _).mono ?_; rintro e w1 ⟨rfl, hb1⟩; have hs1 := hb1.size; (try simp at hs1); (first | have hk4 := call_facts hl3 hb1 (by simp) | skip); (first | have hk3 := call_facts hl2 hb1 (by simp) | skip); (first | have hk2 := call_facts hl1 hb1 (by simp) | skip); have hk1 := call_facts (fun b h => h) hb1 (Nat.le_refl _); (first | have hl4 := hk4.1 | skip); (first | have hl3 := hk3.1 | skip); (first | have hl2 := hk2.1 | skip); have hl1 := hk1.1)))
    go_ret
    refine ⟨?_, (by repeat (first | exact Below.refl _ _ | assumption | refine Below.drew ?_ | refine below_drewN ?_ _ | refine Below.alloc ?_ (by first | omega | (simp; done) | (simp; omega)) _ | refine Below.setCell ?_ (by first | omega | (simp; done) | (simp; omega)) _ | refine Below.trans ?_ (Below.mono (by assumption) (by first | omega | (simp; done) | (simp; omega)))))⟩
    simp [c1, c2]

set_option maxHeartbeats 1000000 in
theorem wholeAt_any (x1 y1 x2 y2 n k : Int) (w : World) :
    Calls Try.prog 50 #[.agg #[.int .i64 x1, .int .i64 y1, .int .i64 x2, .int .i64 y2, .int .i64 n], .int .i64 k] w fun e w' => e = .returned (.tuple #[.agg #[.int .i64 (guardI (plOk x1 y1 x2 y2 n k && wh (px x1 x2 n k) n && wh (px y1 y2 n k) n) ((px x1 x2 n k).tdiv n)), .int .i64 (guardI (plOk x1 y1 x2 y2 n k && wh (px x1 x2 n k) n && wh (px y1 y2 n k) n) ((px y1 y2 n k).tdiv n))], .bool (plOk x1 y1 x2 y2 n k && wh (px x1 x2 n k) n && wh (px y1 y2 n k) n)]) ∧ Below w.heap.size w w' := by
  obtain ⟨q1, q2, q3, q4, q5, q6, q7⟩ := nadd
  cases h1 : plOk x1 y1 x2 y2 n k
  case' true =>
    obtain ⟨h, hk0, hk1⟩ := plOk_iff.1 h1
    obtain ⟨⟨n0, n1⟩, ⟨p0, p1⟩, ⟨r0, r1⟩⟩ := mv_facts h hk0 hk1
    have HE1 := Lib.hid (fun W => exQ_any (px x1 x2 n k) n p0 p1 n0 W)
    have HE2 := Lib.hid (fun W => exQ_any (px y1 y2 n k) n r0 r1 n0 W)
    clear h hk0 hk1 n0 n1 p0 p1 r0 r1
    cases c1 : wh (px x1 x2 n k) n
    all_goals cases c2 : wh (px y1 y2 n k) n
    all_goals
      rw [c1] at HE1
      rw [c2] at HE2
  all_goals
    have HPL := Lib.hid (fun W => placeAt_any x1 y1 x2 y2 n k W)
    rw [h1] at HPL
    try simp only [Bool.and_true, Bool.and_false, Bool.true_and, Bool.false_and, guardI_facts.1, guardI_facts.2]
    obtain ⟨X, hX⟩ : ∃ X, X = px x1 x2 n k := ⟨_, rfl⟩
    obtain ⟨Y, hY⟩ : ∃ Y, Y = px y1 y2 n k := ⟨_, rfl⟩
    rw [← hX, ← hY] at HPL
    simp only [guardI_facts.1, guardI_facts.2] at HPL
    try simp only [guardI_facts.1, guardI_facts.2] at HE1
    try simp only [guardI_facts.1, guardI_facts.2] at HE2
    try rw [← hX, ← hY]
    try rw [← hX] at HE1
    try rw [← hY] at HE2
    try clear c1 c2
    clear hX hY h1
  all_goals
    go_enter Try.func50, Try.ntmps50
    go_wp2_with (first | (go_at_call 16; (refine (HPL.out _).mono ?_; rintro e w1 ⟨rfl, hb1⟩; have hs1 := hb1.size; (try simp at hs1); (first | have hk4 := call_facts hl3 hb1 (by simp) | skip); (first | have hk3 := call_facts hl2 hb1 (by simp) | skip); (first | have hk2 := call_facts hl1 hb1 (by simp) | skip); have hk1 := call_facts (fun b h => h) hb1 (Nat.le_refl _); (first | have hl4 := hk4.1 | skip); (first | have hl3 := hk3.1 | skip); (first | have hl2 := hk2.1 | skip); have hl1 := hk1.1)) | (go_at_call 61; ((with_reducible refine (HE1.out _).mono ?_); rintro e w' ⟨rfl, rfl⟩)) | (go_at_call 61; ((with_reducible refine (HE2.out _).mono ?_); rintro e w' ⟨rfl, rfl⟩)))
    first | exact bodyPost_ret (v := .tuple #[.agg #[.int .i64 0, .int .i64 0], .bool false]) (by simp [results, Try.results50, go_sem, *]) rfl ⟨rfl, (by repeat (first | exact Below.refl _ _ | assumption | refine Below.drew ?_ | refine below_drewN ?_ _ | refine Below.alloc ?_ (by first | omega | (simp; done) | (simp; omega)) _ | refine Below.setCell ?_ (by first | omega | (simp; done) | (simp; omega)) _ | refine Below.trans ?_ (Below.mono (by assumption) (by first | omega | (simp; done) | (simp; omega)))))⟩ | exact bodyPost_ret (v := .tuple #[.agg #[.int .i64 (X.tdiv n), .int .i64 (Y.tdiv n)], .bool true]) (by simp [results, Try.results50, go_sem, *]) rfl ⟨rfl, (by repeat (first | exact Below.refl _ _ | assumption | refine Below.drew ?_ | refine below_drewN ?_ _ | refine Below.alloc ?_ (by first | omega | (simp; done) | (simp; omega)) _ | refine Below.setCell ?_ (by first | omega | (simp; done) | (simp; omega)) _ | refine Below.trans ?_ (Below.mono (by assumption) (by first | omega | (simp; done) | (simp; omega)))))⟩

end Go.Proofs.Ytagfleajkalgiaa
