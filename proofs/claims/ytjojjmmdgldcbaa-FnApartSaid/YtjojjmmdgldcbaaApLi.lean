/- The program's least square of two moves. Conditions: those written in each theorem. -/
import Derived.Test.YtjojjmmdgldcbaaApLs2
import Derived.Deep.RegionHeld3
import Derived.Deep.DrawnRows
import Derived.IntWalk
import Derived.StillTailTactics
namespace Go.Proofs.Ytjojjmmdgldcbaa
open Go.RowKit


attribute [local go_sem ↓] Go.wp_at_zero Go.wp_at_succ

theorem keep_iff {p q r s x1 y1 x2 y2 x3 y3 x4 y4 : Int} (hp : p = x1 - x3) (hq : q = y1 - y3) (hr : r = x2 - x4) (hs : s = y2 - y4) : apC p q r s = 0 ↔ x2 + (x3 - x1) = x4 ∧ y2 + (y3 - y1) = y4 := by
  rw [apC_zero]
  omega

set_option maxHeartbeats 2000000 in
theorem keep_yes (x1 y1 x2 y2 n x3 y3 x4 y4 m : Int) (h : gtog x1 y1 x2 y2 n x3 y3 x4 y4 m = true) (hc1 : x2 + (x3 - x1) = x4) (hc2 : y2 + (y3 - y1) = y4) (w : World) :
    Calls Try.prog 94 #[.agg #[.int .i64 x1, .int .i64 y1, .int .i64 x2, .int .i64 y2, .int .i64 n], .agg #[.int .i64 x3, .int .i64 y3, .int .i64 x4, .int .i64 y4, .int .i64 m]] w fun e w' => e = .returned (.bool true) ∧ Below w.heap.size w w' := by
  obtain ⟨q1, q2, q3, q4, q5, q6, q7⟩ := nadd
  obtain ⟨hw, ⟨n0, n1⟩, nm, v1, v2, v3, v4⟩ := gtog_way h
  obtain ⟨a, ha⟩ : ∃ z, z = x3 - x1 := ⟨_, rfl⟩
  obtain ⟨b, hb⟩ : ∃ z, z = y3 - y1 := ⟨_, rfl⟩
  obtain ⟨U, hU⟩ : ∃ z, z = x2 + (x3 - x1) := ⟨_, rfl⟩
  obtain ⟨V, hV⟩ : ∃ z, z = y2 + (y3 - y1) := ⟨_, rfl⟩
  unfold wayOk at hw
  obtain ⟨k1, k2, _⟩ := gtog_iff.1 h
  obtain ⟨a1, a2, _, _⟩ := isMv_iff.1 k1
  obtain ⟨⟨c1, c2⟩, c3, c4⟩ := onField_iff.1 a2
  have u1 : IntKind.i64.wrap (x3 - x1) = a := by rw [ha]; exact IntWalk.i64_in _ (by omega)
  have u2 : IntKind.i64.wrap (y3 - y1) = b := by rw [hb]; exact IntWalk.i64_in _ (by omega)
  have u3 : IntKind.i64.wrap (x2 + a) = U := by rw [hU, ha]; exact IntWalk.i64_in _ (by omega)
  have u4 : IntKind.i64.wrap (y2 + b) = V := by rw [hV, hb]; exact IntWalk.i64_in _ (by omega)
  rw [← hU] at hc1
  rw [← hV] at hc2
  subst nm
  clear h hw n0 n1 v1 v2 v3 v4 k1 k2 a1 a2 c1 c2 c3 c4 ha hb hU hV
  subst hc1 hc2
  all_goals
    go_enter Try.func94, Try.ntmps94
    go_wp2
    go_quiet (fail)
    go_wp2
    first | exact bodyPost_ret (v := .bool true) (by simp [results, Try.results94, go_sem, *]) rfl ⟨rfl, (by repeat (first | exact Below.refl _ _ | assumption | refine Below.drew ?_ | refine below_drewN ?_ _ | refine Below.alloc ?_ (by first | omega | (simp; done) | (simp; omega)) _ | refine Below.setCell ?_ (by first | omega | (simp; done) | (simp; omega)) _ | refine Below.trans ?_ (Below.mono (by assumption) (by first | omega | (simp; done) | (simp; omega)))))⟩

set_option maxHeartbeats 2000000 in
theorem keep_no1 (x1 y1 x2 y2 n x3 y3 x4 y4 m : Int) (h : gtog x1 y1 x2 y2 n x3 y3 x4 y4 m = true) (hc1 : ¬ x2 + (x3 - x1) = x4) (w : World) :
    Calls Try.prog 94 #[.agg #[.int .i64 x1, .int .i64 y1, .int .i64 x2, .int .i64 y2, .int .i64 n], .agg #[.int .i64 x3, .int .i64 y3, .int .i64 x4, .int .i64 y4, .int .i64 m]] w fun e w' => e = .returned (.bool false) ∧ Below w.heap.size w w' := by
  obtain ⟨q1, q2, q3, q4, q5, q6, q7⟩ := nadd
  obtain ⟨hw, ⟨n0, n1⟩, nm, v1, v2, v3, v4⟩ := gtog_way h
  obtain ⟨a, ha⟩ : ∃ z, z = x3 - x1 := ⟨_, rfl⟩
  obtain ⟨b, hb⟩ : ∃ z, z = y3 - y1 := ⟨_, rfl⟩
  obtain ⟨U, hU⟩ : ∃ z, z = x2 + (x3 - x1) := ⟨_, rfl⟩
  obtain ⟨V, hV⟩ : ∃ z, z = y2 + (y3 - y1) := ⟨_, rfl⟩
  unfold wayOk at hw
  obtain ⟨k1, k2, _⟩ := gtog_iff.1 h
  obtain ⟨a1, a2, _, _⟩ := isMv_iff.1 k1
  obtain ⟨⟨c1, c2⟩, c3, c4⟩ := onField_iff.1 a2
  have u1 : IntKind.i64.wrap (x3 - x1) = a := by rw [ha]; exact IntWalk.i64_in _ (by omega)
  have u2 : IntKind.i64.wrap (y3 - y1) = b := by rw [hb]; exact IntWalk.i64_in _ (by omega)
  have u3 : IntKind.i64.wrap (x2 + a) = U := by rw [hU, ha]; exact IntWalk.i64_in _ (by omega)
  have u4 : IntKind.i64.wrap (y2 + b) = V := by rw [hV, hb]; exact IntWalk.i64_in _ (by omega)
  rw [← hU] at hc1
  subst nm
  clear h hw n0 n1 v1 v2 v3 v4 k1 k2 a1 a2 c1 c2 c3 c4 ha hb hU hV
  have z1 : (U == x4) = false := by simpa using hc1
  all_goals
    go_enter Try.func94, Try.ntmps94
    go_wp2
    go_quiet (fail)
    go_wp2
    first | exact bodyPost_ret (v := .bool false) (by simp [results, Try.results94, go_sem, *]) rfl ⟨rfl, (by repeat (first | exact Below.refl _ _ | assumption | refine Below.drew ?_ | refine below_drewN ?_ _ | refine Below.alloc ?_ (by first | omega | (simp; done) | (simp; omega)) _ | refine Below.setCell ?_ (by first | omega | (simp; done) | (simp; omega)) _ | refine Below.trans ?_ (Below.mono (by assumption) (by first | omega | (simp; done) | (simp; omega)))))⟩

set_option maxHeartbeats 2000000 in
theorem keep_no2 (x1 y1 x2 y2 n x3 y3 x4 y4 m : Int) (h : gtog x1 y1 x2 y2 n x3 y3 x4 y4 m = true) (hc1 : x2 + (x3 - x1) = x4) (hc2 : ¬ y2 + (y3 - y1) = y4) (w : World) :
    Calls Try.prog 94 #[.agg #[.int .i64 x1, .int .i64 y1, .int .i64 x2, .int .i64 y2, .int .i64 n], .agg #[.int .i64 x3, .int .i64 y3, .int .i64 x4, .int .i64 y4, .int .i64 m]] w fun e w' => e = .returned (.bool false) ∧ Below w.heap.size w w' := by
  obtain ⟨q1, q2, q3, q4, q5, q6, q7⟩ := nadd
  obtain ⟨hw, ⟨n0, n1⟩, nm, v1, v2, v3, v4⟩ := gtog_way h
  obtain ⟨a, ha⟩ : ∃ z, z = x3 - x1 := ⟨_, rfl⟩
  obtain ⟨b, hb⟩ : ∃ z, z = y3 - y1 := ⟨_, rfl⟩
  obtain ⟨U, hU⟩ : ∃ z, z = x2 + (x3 - x1) := ⟨_, rfl⟩
  obtain ⟨V, hV⟩ : ∃ z, z = y2 + (y3 - y1) := ⟨_, rfl⟩
  unfold wayOk at hw
  obtain ⟨k1, k2, _⟩ := gtog_iff.1 h
  obtain ⟨a1, a2, _, _⟩ := isMv_iff.1 k1
  obtain ⟨⟨c1, c2⟩, c3, c4⟩ := onField_iff.1 a2
  have u1 : IntKind.i64.wrap (x3 - x1) = a := by rw [ha]; exact IntWalk.i64_in _ (by omega)
  have u2 : IntKind.i64.wrap (y3 - y1) = b := by rw [hb]; exact IntWalk.i64_in _ (by omega)
  have u3 : IntKind.i64.wrap (x2 + a) = U := by rw [hU, ha]; exact IntWalk.i64_in _ (by omega)
  have u4 : IntKind.i64.wrap (y2 + b) = V := by rw [hV, hb]; exact IntWalk.i64_in _ (by omega)
  rw [← hU] at hc1
  rw [← hV] at hc2
  subst nm
  clear h hw n0 n1 v1 v2 v3 v4 k1 k2 a1 a2 c1 c2 c3 c4 ha hb hU hV
  subst hc1
  have z2 : (V == y4) = false := by simpa using hc2
  all_goals
    go_enter Try.func94, Try.ntmps94
    go_wp2
    go_quiet (fail)
    go_wp2
    first | exact bodyPost_ret (v := .bool false) (by simp [results, Try.results94, go_sem, *]) rfl ⟨rfl, (by repeat (first | exact Below.refl _ _ | assumption | refine Below.drew ?_ | refine below_drewN ?_ _ | refine Below.alloc ?_ (by first | omega | (simp; done) | (simp; omega)) _ | refine Below.setCell ?_ (by first | omega | (simp; done) | (simp; omega)) _ | refine Below.trans ?_ (Below.mono (by assumption) (by first | omega | (simp; done) | (simp; omega)))))⟩

theorem keep_any (x1 y1 x2 y2 n x3 y3 x4 y4 m : Int) (h : gtog x1 y1 x2 y2 n x3 y3 x4 y4 m = true) (w : World) :
    Calls Try.prog 94 #[.agg #[.int .i64 x1, .int .i64 y1, .int .i64 x2, .int .i64 y2, .int .i64 n], .agg #[.int .i64 x3, .int .i64 y3, .int .i64 x4, .int .i64 y4, .int .i64 m]] w fun e w' => e = .returned (.bool (decide (apC (x1 - x3) (y1 - y3) (x2 - x4) (y2 - y4) = 0))) ∧ Below w.heap.size w w' := by
  have hk := keep_iff (rfl : x1 - x3 = x1 - x3) (rfl : y1 - y3 = y1 - y3) (rfl : x2 - x4 = x2 - x4) (rfl : y2 - y4 = y2 - y4)
  by_cases hc1 : x2 + (x3 - x1) = x4
  · by_cases hc2 : y2 + (y3 - y1) = y4
    · rw [decide_eq_true (hk.2 ⟨hc1, hc2⟩)]; exact keep_yes x1 y1 x2 y2 n x3 y3 x4 y4 m h hc1 hc2 w
    · rw [decide_eq_false (fun e => hc2 (hk.1 e).2)]; exact keep_no2 x1 y1 x2 y2 n x3 y3 x4 y4 m h hc1 hc2 w
  · rw [decide_eq_false (fun e => hc1 (hk.1 e).1)]; exact keep_no1 x1 y1 x2 y2 n x3 y3 x4 y4 m h hc1 w
/-- The program's fractions. -/
def clP (p q r s : Int) : Int := if apC p q r s = 0 then 0 else prt (apI p q r s) (apC p q r s)
def clD (p q r s : Int) : Int := if apC p q r s = 0 then 1 else apC p q r s
def clN (p q r s : Int) : Int := if apC p q r s = 0 then apB p q else rawN p q r s
theorem cl_eq {p q r s : Int} : ∃ k : Nat, 0 < k ∧ clN p q r s = apN p q r s * (k : Int) ∧ clD p q r s = apD p q r s * (k : Int) ∧ ∀ n, clP p q r s * n = apT p q r s n * (k : Int) := by
  unfold clP clD clN
  have h0 := apC_nonneg p q r s
  by_cases hc : apC p q r s = 0
  · obtain ⟨e1, e2, e3⟩ := still_eq hc
    refine ⟨1, by omega, ?_, ?_, fun n => ?_⟩
    · rw [if_pos hc, e1]; omega
    · rw [if_pos hc, e2]; omega
    · rw [if_pos hc, e3]; omega
  · rw [if_neg hc, if_neg hc, if_neg hc]
    exact raw_eq p q r s (by omega)
theorem cl_bd {p q r s : Int} (h : wayOk p q r s) : (0 ≤ clN p q r s ∧ clN p q r s ≤ 500000000000000) ∧ 0 < clD p q r s ∧ clD p q r s ≤ 8359936 ∧ 0 ≤ clP p q r s ∧ clP p q r s ≤ 8359936 := by
  obtain ⟨k, k0, e1, e2, _⟩ := @cl_eq p q r s
  have hn := apN_bd h
  have hN : 0 ≤ clN p q r s := by rw [e1]; exact Int.mul_nonneg hn.1.1 (by omega)
  have hD : 0 < clD p q r s := by rw [e2]; exact Int.mul_pos hn.2.1 (by omega)
  have h1 := raw_bd h
  have h2 := apB_bd h.1 h.2.1
  have h3 := apC_bd h
  have h4 := prt_bd (i := apI p q r s) h3.2.2.1
  refine ⟨⟨hN, ?_⟩, hD, ?_, ?_⟩
  · unfold clN rawN; split <;> omega
  · unfold clD; split <;> omega
  · unfold clP; split <;> omega
/-- The greater, the lesser of two numbers, as the builtins have it. -/
def mxB (a b : Int) : Int := if a < b then b else a
def mnB (a b : Int) : Int := if b < a then b else a
theorem prt_eq (i c : Int) (hc : 0 ≤ c) : mnB (mxB i 0) c = prt i c := by unfold mnB mxB prt; split <;> split <;> split <;> omega

set_option maxHeartbeats 2000000 in
theorem closest_still (x1 y1 x2 y2 n x3 y3 x4 y4 m p q r s : Int) (v1 : IntKind.i64.wrap (x1 - x3) = p) (v2 : IntKind.i64.wrap (y1 - y3) = q) (v3 : IntKind.i64.wrap (x2 - x4) = r) (v4 : IntKind.i64.wrap (y2 - y4) = s) (h : wayOk p q r s) (hg : gtog x1 y1 x2 y2 n x3 y3 x4 y4 m = true) (hc : apC p q r s = 0) (w : World) :
    Calls Try.prog 66 #[.agg #[.int .i64 x1, .int .i64 y1, .int .i64 x2, .int .i64 y2, .int .i64 n], .agg #[.int .i64 x3, .int .i64 y3, .int .i64 x4, .int .i64 y4, .int .i64 m]] w fun e w' => e = .returned (.tuple #[.agg #[.int .i64 (clP p q r s), .int .i64 (clD p q r s)], .agg #[.int .i64 (clN p q r s), .int .i64 (clD p q r s)]]) ∧ Below w.heap.size w w' := by
  obtain ⟨q1, q2, q3, q4, q5, q6, q7⟩ := nadd
  have HK := Lib.hid (fun W => keep_any x1 y1 x2 y2 n x3 y3 x4 y4 m hg W)
  obtain ⟨g1, g2, g3, d1, d2, d3, d4⟩ := gtog_way hg
  clear g2 g3
  obtain ⟨a, b, B, c, d, E, hB, _, u1, u2, u3, _, _, _⟩ := ends_facts h
  have ee : apC (x1 - x3) (y1 - y3) (x2 - x4) (y2 - y4) = apC p q r s := by rw [← v1, ← v2, ← v3, ← v4, d1, d2, d3, d4]
  rw [ee] at HK
  rw [decide_eq_true hc] at HK
  have e1 : clP p q r s = 0 := if_pos hc
  have e2 : clD p q r s = 1 := if_pos hc
  have e3 : clN p q r s = apB p q := if_pos hc
  rw [e1, e2, e3, ← hB]
  clear e1 e2 e3 hB hc h hg g1 d1 d2 d3 d4 ee v3 v4
  all_goals
    go_enter Try.func66, Try.ntmps66
    go_wp2
    go_quiet (fail)
    go_wp2_with (first | (go_at_call 94; ((with_reducible refine (HK.out _).mono ?_); rintro e w1 ⟨rfl, hb1⟩; have hs1 := hb1.size; (try simp at hs1); (first | have hk4 := call_facts hl3 hb1 (by first | omega | (simp; done) | (simp; omega)) | skip); (first | have hk3 := call_facts hl2 hb1 (by first | omega | (simp; done) | (simp; omega)) | skip); (first | have hk2 := call_facts hl1 hb1 (by first | omega | (simp; done) | (simp; omega)) | skip); have hk1 := call_facts (fun b h => h) hb1 (Nat.le_refl _); (first | have hl4 := hk4.1 | skip); (first | have hl3 := hk3.1 | skip); (first | have hl2 := hk2.1 | skip); have hl1 := hk1.1)))
    first | exact bodyPost_ret (v := .tuple #[.agg #[.int .i64 0, .int .i64 1], .agg #[.int .i64 B, .int .i64 1]]) (by simp [results, Try.results66, go_sem, *]) rfl ⟨rfl, (by repeat (first | with_reducible exact Below.refl _ _ | with_reducible assumption | with_reducible refine Below.drew ?_ | with_reducible refine below_drewN ?_ _ | with_reducible refine Below.alloc ?_ (by first | omega | (simp; done) | (simp; omega)) _ | with_reducible refine Below.setCell ?_ (by first | omega | (simp; done) | (simp; omega)) _ | with_reducible refine Below.trans ?_ (Below.mono (by assumption) (by first | omega | (simp; done) | (simp; omega)))))⟩

theorem move_facts {p q r s B : Int} (h : wayOk p q r s) (hB : B = apB p q) (hc : ¬ apC p q r s = 0) : ∃ vx vy np a b I c d C P bc i2 e g N : Int, IntKind.i64.wrap (r - p) = vx ∧ IntKind.i64.wrap (s - q) = vy ∧ wrap64 (-p) = np ∧ IntKind.i64.wrap (-p) = np ∧ IntKind.i64.wrap (np * vx) = a ∧ IntKind.i64.wrap (q * vy) = b ∧ IntKind.i64.wrap (a - b) = I ∧ IntKind.i64.wrap (vx * vx) = c ∧ IntKind.i64.wrap (vy * vy) = d ∧ IntKind.i64.wrap (c + d) = C ∧
    mnB (mxB I 0) C = P ∧ IntKind.i64.wrap (B * C) = bc ∧ IntKind.i64.wrap (2 * I) = i2 ∧ IntKind.i64.wrap (P - i2) = e ∧ IntKind.i64.wrap (P * e) = g ∧ IntKind.i64.wrap (bc + g) = N ∧ P = clP p q r s ∧ C = clD p q r s ∧ N = clN p q r s := by
  have h1 := apI_bd h
  have h2 := apC_bd h
  have h3 := raw_bd h
  have h4 := prt_bd (i := apI p q r s) h2.2.2.1
  have hw := h
  obtain ⟨⟨p0, p1⟩, ⟨q0, q1⟩, ⟨r0, r1⟩, s0, s1⟩ := h
  have e1 : clP p q r s = prt (apI p q r s) (apC p q r s) := if_neg hc
  have e2 : clD p q r s = apC p q r s := if_neg hc
  have e3 : clN p q r s = rawN p q r s := if_neg hc
  have f1 : -p * (r - p) = -(p * (r - p)) := Int.neg_mul _ _
  have f2 : -p * (r - p) - q * (s - q) = apI p q r s := by unfold apI; omega
  have f3 : (r - p) * (r - p) + (s - q) * (s - q) = apC p q r s := rfl
  refine ⟨r - p, s - q, -p, -p * (r - p), q * (s - q), apI p q r s, (r - p) * (r - p), (s - q) * (s - q), apC p q r s, prt (apI p q r s) (apC p q r s), B * apC p q r s, 2 * apI p q r s, prt (apI p q r s) (apC p q r s) - 2 * apI p q r s, prt (apI p q r s) (apC p q r s) * (prt (apI p q r s) (apC p q r s) - 2 * apI p q r s), rawN p q r s,
    IntWalk.i64_in _ (by omega), IntWalk.i64_in _ (by omega), IntWalk.wrap64_in _ ⟨by omega, by omega⟩, IntWalk.i64_in _ (by omega), IntWalk.i64_in _ (by omega), IntWalk.i64_in _ (by omega), ?_, IntWalk.i64_in _ (by omega), IntWalk.i64_in _ (by omega), ?_, prt_eq _ _ h2.2.2.1, ?_, IntWalk.i64_in _ (by omega), IntWalk.i64_in _ (by omega), IntWalk.i64_in _ (by omega), ?_, e1.symm, e2.symm, e3.symm⟩
  · rw [f2]; exact IntWalk.i64_in _ (by omega)
  · rw [f3]; exact IntWalk.i64_in _ (by omega)
  · rw [hB]; exact IntWalk.i64_in _ (by omega)
  · rw [hB]; unfold rawN; exact IntWalk.i64_in _ (by omega)

set_option maxHeartbeats 4000000 in
theorem closest_move (x1 y1 x2 y2 n x3 y3 x4 y4 m p q r s : Int) (v1 : IntKind.i64.wrap (x1 - x3) = p) (v2 : IntKind.i64.wrap (y1 - y3) = q) (v3 : IntKind.i64.wrap (x2 - x4) = r) (v4 : IntKind.i64.wrap (y2 - y4) = s) (h : wayOk p q r s) (hg : gtog x1 y1 x2 y2 n x3 y3 x4 y4 m = true) (hc : ¬ apC p q r s = 0) (w : World) :
    Calls Try.prog 66 #[.agg #[.int .i64 x1, .int .i64 y1, .int .i64 x2, .int .i64 y2, .int .i64 n], .agg #[.int .i64 x3, .int .i64 y3, .int .i64 x4, .int .i64 y4, .int .i64 m]] w fun e w' => e = .returned (.tuple #[.agg #[.int .i64 (clP p q r s), .int .i64 (clD p q r s)], .agg #[.int .i64 (clN p q r s), .int .i64 (clD p q r s)]]) ∧ Below w.heap.size w w' := by
  obtain ⟨q1, q2, q3, q4, q5, q6, q7⟩ := nadd
  have HK := Lib.hid (fun W => keep_any x1 y1 x2 y2 n x3 y3 x4 y4 m hg W)
  obtain ⟨g1, g2, g3, d1, d2, d3, d4⟩ := gtog_way hg
  clear g2 g3
  obtain ⟨a, b, B, c, d, E, hB, _, u1, u2, u3, _, _, _⟩ := ends_facts h
  have ee : apC (x1 - x3) (y1 - y3) (x2 - x4) (y2 - y4) = apC p q r s := by rw [← v1, ← v2, ← v3, ← v4, d1, d2, d3, d4]
  rw [ee] at HK
  rw [decide_eq_false hc] at HK
  obtain ⟨vx, vy, np, a', b', I, c', d', C, P, bc, i2, e', g, N, w1', w2', w3', w4', w5', w6', w7', w8', w9', w10', w11', w12', w13', w14', w15', w16', e1, e2, e3⟩ := move_facts h hB hc
  rw [← e1, ← e2, ← e3]
  clear e1 e2 e3 hB hc h hg g1 d1 d2 d3 d4 ee
  have m1 : ∀ a b : Int, (if a < b then b else a) = mxB a b := fun _ _ => rfl
  have m2 : ∀ a b : Int, (if b < a then b else a) = mnB a b := fun _ _ => rfl
  all_goals
    go_enter Try.func66, Try.ntmps66
    go_wp2
    go_quiet (fail)
    go_wp2_with (first | (go_at_call 94; ((with_reducible refine (HK.out _).mono ?_); rintro e w1 ⟨rfl, hb1⟩; have hs1 := hb1.size; (try simp at hs1); (first | have hk4 := call_facts hl3 hb1 (by first | omega | (simp; done) | (simp; omega)) | skip); (first | have hk3 := call_facts hl2 hb1 (by first | omega | (simp; done) | (simp; omega)) | skip); (first | have hk2 := call_facts hl1 hb1 (by first | omega | (simp; done) | (simp; omega)) | skip); have hk1 := call_facts (fun b h => h) hb1 (Nat.le_refl _); (first | have hl4 := hk4.1 | skip); (first | have hl3 := hk3.1 | skip); (first | have hl2 := hk2.1 | skip); have hl1 := hk1.1)))
    go_quiet (fail)
    go_wp2
    first | exact bodyPost_ret (v := .tuple #[.agg #[.int .i64 P, .int .i64 C], .agg #[.int .i64 N, .int .i64 C]]) (by simp [results, Try.results66, go_sem, *]) rfl ⟨rfl, (by repeat (first | with_reducible exact Below.refl _ _ | with_reducible assumption | with_reducible refine Below.drew ?_ | with_reducible refine below_drewN ?_ _ | with_reducible refine Below.alloc ?_ (by first | omega | (simp; done) | (simp; omega)) _ | with_reducible refine Below.setCell ?_ (by first | omega | (simp; done) | (simp; omega)) _ | with_reducible refine Below.trans ?_ (Below.mono (by assumption) (by first | omega | (simp; done) | (simp; omega)))))⟩

theorem closest_any (x1 y1 x2 y2 n x3 y3 x4 y4 m p q r s : Int) (v1 : IntKind.i64.wrap (x1 - x3) = p) (v2 : IntKind.i64.wrap (y1 - y3) = q) (v3 : IntKind.i64.wrap (x2 - x4) = r) (v4 : IntKind.i64.wrap (y2 - y4) = s) (h : wayOk p q r s) (hg : gtog x1 y1 x2 y2 n x3 y3 x4 y4 m = true) (w : World) :
    Calls Try.prog 66 #[.agg #[.int .i64 x1, .int .i64 y1, .int .i64 x2, .int .i64 y2, .int .i64 n], .agg #[.int .i64 x3, .int .i64 y3, .int .i64 x4, .int .i64 y4, .int .i64 m]] w fun e w' => e = .returned (.tuple #[.agg #[.int .i64 (clP p q r s), .int .i64 (clD p q r s)], .agg #[.int .i64 (clN p q r s), .int .i64 (clD p q r s)]]) ∧ Below w.heap.size w w' := by
  by_cases hc : apC p q r s = 0
  · exact closest_still x1 y1 x2 y2 n x3 y3 x4 y4 m p q r s v1 v2 v3 v4 h hg hc w
  · exact closest_move x1 y1 x2 y2 n x3 y3 x4 y4 m p q r s v1 v2 v3 v4 h hg hc w

set_option maxHeartbeats 2000000 in
theorem leastSq_any (x1 y1 x2 y2 n x3 y3 x4 y4 m p q r s : Int) (v1 : IntKind.i64.wrap (x1 - x3) = p) (v2 : IntKind.i64.wrap (y1 - y3) = q) (v3 : IntKind.i64.wrap (x2 - x4) = r) (v4 : IntKind.i64.wrap (y2 - y4) = s) (h : wayOk p q r s) (hg : gtog x1 y1 x2 y2 n x3 y3 x4 y4 m = true) (w : World) :
    Calls Try.prog 63 #[.agg #[.int .i64 x1, .int .i64 y1, .int .i64 x2, .int .i64 y2, .int .i64 n], .agg #[.int .i64 x3, .int .i64 y3, .int .i64 x4, .int .i64 y4, .int .i64 m]] w fun e w' => e = .returned (.agg #[.int .i64 (clN p q r s), .int .i64 (clD p q r s)]) ∧ Below w.heap.size w w' := by
  obtain ⟨q1, q2, q3, q4, q5, q6, q7⟩ := nadd
  have HC := Lib.hid (fun W => closest_any x1 y1 x2 y2 n x3 y3 x4 y4 m p q r s v1 v2 v3 v4 h hg W)
  obtain ⟨P, hP⟩ : ∃ z, z = clP p q r s := ⟨_, rfl⟩
  obtain ⟨D, hD⟩ : ∃ z, z = clD p q r s := ⟨_, rfl⟩
  obtain ⟨N, hN⟩ : ∃ z, z = clN p q r s := ⟨_, rfl⟩
  rw [← hP, ← hD, ← hN] at HC
  rw [← hD, ← hN]
  clear hP hD hN h hg v1 v2 v3 v4
  all_goals
    go_enter Try.func63, Try.ntmps63
    go_wp2_with (first | (go_at_call 66; ((with_reducible refine (HC.out _).mono ?_); rintro e w1 ⟨rfl, hb1⟩; have hs1 := hb1.size; (try simp at hs1); (first | have hk4 := call_facts hl3 hb1 (by first | omega | (simp; done) | (simp; omega)) | skip); (first | have hk3 := call_facts hl2 hb1 (by first | omega | (simp; done) | (simp; omega)) | skip); (first | have hk2 := call_facts hl1 hb1 (by first | omega | (simp; done) | (simp; omega)) | skip); have hk1 := call_facts (fun b h => h) hb1 (Nat.le_refl _); (first | have hl4 := hk4.1 | skip); (first | have hl3 := hk3.1 | skip); (first | have hl2 := hk2.1 | skip); have hl1 := hk1.1)))
    first | exact bodyPost_ret (v := .agg #[.int .i64 N, .int .i64 D]) (by simp [results, Try.results63, go_sem, *]) rfl ⟨rfl, (by repeat (first | with_reducible exact Below.refl _ _ | with_reducible assumption | with_reducible refine Below.drew ?_ | with_reducible refine below_drewN ?_ _ | with_reducible refine Below.alloc ?_ (by first | omega | (simp; done) | (simp; omega)) _ | with_reducible refine Below.setCell ?_ (by first | omega | (simp; done) | (simp; omega)) _ | with_reducible refine Below.trans ?_ (Below.mono (by assumption) (by first | omega | (simp; done) | (simp; omega)))))⟩

end Go.Proofs.Ytjojjmmdgldcbaa
