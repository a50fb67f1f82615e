/- The middle of a circle through three spots, both sides. Conditions: those written in each theorem. -/
import Derived.Test.YtjdpbjpeohdoiaaArOne
import Derived.Test.YtjdpbjpeohdoiaaStL
import Derived.Test.YtjdpbjpeohdoiaaOwn
import Derived.Deep.RegionHeld3
import Derived.Deep.DrawnRows
import Derived.IntWalk
import Derived.Laws.AppendOwn
import Derived.Deep.AppendLies
import Derived.StillTailTactics
import Derived.IntWalk
namespace Go.Proofs.Ytjdpbjpeohdoiaa
open Go.RowKit


attribute [local go_sem ↓] Go.wp_at_zero Go.wp_at_succ

theorem prod_bound {a b m n : Int} (a0 : -m ≤ a) (a1 : a ≤ m) (b0 : -n ≤ b) (b1 : b ≤ n) (hm : 0 ≤ m) : -(m * n) ≤ a * b ∧ a * b ≤ m * n := by
  have hn : 0 ≤ n := by omega
  have h1 : 0 ≤ (m - a) * (n + b) := Int.mul_nonneg (by omega) (by omega)
  have h2 : 0 ≤ (m + a) * (n - b) := Int.mul_nonneg (by omega) (by omega)
  have h3 : 0 ≤ (m - a) * (n - b) := Int.mul_nonneg (by omega) (by omega)
  have h4 : 0 ≤ (m + a) * (n + b) := Int.mul_nonneg (by omega) (by omega)
  have e1 : (m - a) * (n + b) = m * n + m * b - a * n - a * b := by rw [Int.sub_mul, Int.mul_add, Int.mul_add]; omega
  have e2 : (m + a) * (n - b) = m * n - m * b + a * n - a * b := by rw [Int.add_mul, Int.mul_sub, Int.mul_sub]; omega
  have e3 : (m - a) * (n - b) = m * n - m * b - a * n + a * b := by rw [Int.sub_mul, Int.mul_sub, Int.mul_sub]; omega
  have e4 : (m + a) * (n + b) = m * n + m * b + a * n + a * b := by rw [Int.add_mul, Int.mul_add, Int.mul_add]; omega
  omega
theorem tdiv_abs {a d M : Int} (h0 : -M ≤ a) (h1 : a ≤ M) : -M ≤ a.tdiv d ∧ a.tdiv d ≤ M := by
  have h : (a.tdiv d).natAbs ≤ a.natAbs := by rw [Int.natAbs_tdiv]; exact Nat.div_le_self _ _
  omega
/-- Twice the cross product, and the two told products. -/
def mcD (bx by' cx cy : Int) : Int := 2 * (bx * cy - by' * cx)
def mcX (bx by' cx cy : Int) : Int := cy * (bx * bx + by' * by') - by' * (cx * cx + cy * cy)
def mcY (bx by' cx cy : Int) : Int := bx * (cx * cx + cy * cy) - cx * (bx * bx + by' * by')
def mcQ (D X Y : Int) : Bool := decide (D ≠ 0) && decide (X.tmod D = 0) && decide (Y.tmod D = 0)
/-- The middle, seen from the first spot, and whether there is one. -/
def mcU (x1 y1 x2 y2 x3 y3 : Int) : Int := x1 + (mcX (x2 - x1) (y2 - y1) (x3 - x1) (y3 - y1)).tdiv (mcD (x2 - x1) (y2 - y1) (x3 - x1) (y3 - y1))
def mcV (x1 y1 x2 y2 x3 y3 : Int) : Int := y1 + (mcY (x2 - x1) (y2 - y1) (x3 - x1) (y3 - y1)).tdiv (mcD (x2 - x1) (y2 - y1) (x3 - x1) (y3 - y1))
def mcIn (x1 y1 x2 y2 x3 y3 : Int) : Bool := mcQ (mcD (x2 - x1) (y2 - y1) (x3 - x1) (y3 - y1)) (mcX (x2 - x1) (y2 - y1) (x3 - x1) (y3 - y1)) (mcY (x2 - x1) (y2 - y1) (x3 - x1) (y3 - y1)) && onField (mcU x1 y1 x2 y2 x3 y3) (mcV x1 y1 x2 y2 x3 y3)
def mcOn (x1 y1 x2 y2 x3 y3 : Int) : Bool := onField x1 y1 && onField x2 y2 && onField x3 y3
def mcK (x1 y1 x2 y2 x3 y3 : Int) : Bool := mcOn x1 y1 x2 y2 x3 y3 && mcIn x1 y1 x2 y2 x3 y3
theorem sqr_from (x1 y1 x2 y2 : Int) : sqr x1 y1 x2 y2 = (x2 - x1) * (x2 - x1) + (y2 - y1) * (y2 - y1) := by
  rw [sqr_comm]; rfl

set_option maxHeartbeats 400000 in
theorem exactQuotient_any (n d : Int) (h0 : -6000000000 ≤ n) (h1 : n ≤ 6000000000) (hd : d ≠ 0) (w : World) :
    Calls Try.prog 62 #[.int .i64 n, .int .i64 d] w fun e w' => e = .returned (.tuple #[.int .i64 (guardI (decide (n.tmod d = 0)) (n.tdiv d)), .bool (decide (n.tmod d = 0))]) ∧ w = w' := by
  have hb := tdiv_abs (d := d) h0 h1
  have v1 : wrap64 (n.tdiv d) = n.tdiv d := IntWalk.wrap64_in _ ⟨by omega, by omega⟩
  have z1 : (d == 0) = false := by simpa using hd
  obtain ⟨q, hq⟩ : ∃ q, q = n.tdiv d := ⟨_, rfl⟩
  obtain ⟨r, hr⟩ : ∃ r, r = n.tmod d := ⟨_, rfl⟩
  by_cases h : r = 0
  · have k1 : (r == 0) = true := by simpa using h
    have k2 : (r != 0) = false := by simpa using h
    have k3 := h
    rw [hr] at k1 k2 k3
    rw [show decide (n.tmod d = 0) = true by rw [← hr]; simpa using h]
    clear h hr hq
    go_enter Try.func62, Try.ntmps62
    go_wp2
    go_ret2
    exact ⟨rfl, rfl⟩
  · have k1 : (r == 0) = false := by simpa using h
    have k2 : (r != 0) = true := by simpa using h
    have k3 := h
    rw [hr] at k1 k2 k3
    rw [show decide (n.tmod d = 0) = false by rw [← hr]; simpa using h]
    clear h hr hq
    go_enter Try.func62, Try.ntmps62
    go_wp2
    go_ret2
    exact ⟨rfl, rfl⟩

set_option maxHeartbeats 1000000 in
theorem specMC_no (x1 y1 x2 y2 x3 y3 : Int) (hv : mcOn x1 y1 x2 y2 x3 y3 = false) (w : World) :
    Calls Try.prog 38 #[.agg #[.int .i64 x1, .int .i64 y1], .agg #[.int .i64 x2, .int .i64 y2], .agg #[.int .i64 x3, .int .i64 y3]] w fun e w' => e = .returned (.tuple #[.agg #[.int .i64 0, .int .i64 0], .bool false]) ∧ Below w.heap.size w w' := by
  obtain ⟨q1, q2, q3, q4, q5, q6, q7⟩ := nadd
  cases h1 : onField x1 y1 <;> cases h2 : onField x2 y2 <;> cases h3 : onField x3 y3
  case' true.true.true => unfold mcOn at hv; rw [h1, h2, h3] at hv; cases hv
  all_goals
    go_enter Try.func38, Try.ntmps38
    go_wp2_with (first | (go_at_call 52; (refine (stTwo_any _ _ _ _ _).mono ?_; rintro e w1 ⟨rfl, hb1⟩; have hs1 := hb1.size; (try simp at hs1); (first | have hk4 := call_facts hl3 hb1 (by simp) | skip); (first | have hk3 := call_facts hl2 hb1 (by simp) | skip); (first | have hk2 := call_facts hl1 hb1 (by simp) | skip); have hk1 := call_facts (fun b h => h) hb1 (Nat.le_refl _); (first | have hl4 := hk4.1 | skip); (first | have hl3 := hk3.1 | skip); (first | have hl2 := hk2.1 | skip); have hl1 := hk1.1)) | (go_at_call 55; (refine (stGood_any _ _ _).mono ?_; rintro e w1 ⟨rfl, hb1⟩; have hs1 := hb1.size; (try simp at hs1); (first | have hk4 := call_facts hl3 hb1 (by simp) | skip); (first | have hk3 := call_facts hl2 hb1 (by simp) | skip); (first | have hk2 := call_facts hl1 hb1 (by simp) | skip); have hk1 := call_facts (fun b h => h) hb1 (Nat.le_refl _); (first | have hl4 := hk4.1 | skip); (first | have hl3 := hk3.1 | skip); (first | have hl2 := hk2.1 | skip); have hl1 := hk1.1)))
    first | exact bodyPost_ret (v := .tuple #[.agg #[.int .i64 0, .int .i64 0], .bool false]) (by simp [results, Try.results38, go_sem, *]) rfl ⟨rfl, (by repeat (first | exact Below.refl _ _ | assumption | refine Below.drew ?_ | refine below_drewN ?_ _ | refine Below.alloc ?_ (by first | omega | (simp; done) | (simp; omega)) _ | refine Below.setCell ?_ (by first | omega | (simp; done) | (simp; omega)) _ | refine Below.trans ?_ (Below.mono (by assumption) (by first | omega | (simp; done) | (simp; omega)))))⟩

theorem three_at (w : World) (x1 y1 x2 y2 x3 y3 : Int) : PairsAt (w.alloc (.cells #[.int .i64 x1, .int .i64 y1, .int .i64 x2, .int .i64 y2, .int .i64 x3, .int .i64 y3] 27)) (some ⟨w.heap.size, 0, none⟩) [(x1, y1), (x2, y2), (x3, y3)] := by
  intro i hi
  refine ⟨_, _, rfl, ?_, ?_⟩
  all_goals
    match i, hi with
    | 0, _ => rw [World.cell?_alloc_at _ _ _ _ rfl]; rfl
    | 1, _ => rw [World.cell?_alloc_at _ _ _ _ rfl]; rfl
    | 2, _ => rw [World.cell?_alloc_at _ _ _ _ rfl]; rfl
theorem three_ok (x1 y1 x2 y2 x3 y3 : Int) : okList [(x1, y1), (x2, y2), (x3, y3)] = mcOn x1 y1 x2 y2 x3 y3 := by simp [okList, allOn, allP, mcOn, Bool.and_assoc]

set_option maxHeartbeats 1000000 in
theorem mc_no (x1 y1 x2 y2 x3 y3 : Int) (hv : mcOn x1 y1 x2 y2 x3 y3 = false) (w : World) :
    Calls Try.prog 39 #[.agg #[.int .i64 x1, .int .i64 y1], .agg #[.int .i64 x2, .int .i64 y2], .agg #[.int .i64 x3, .int .i64 y3]] w fun e w' => e = .returned (.tuple #[.agg #[.int .i64 0, .int .i64 0], .bool false]) ∧ Below w.heap.size w w' := by
  obtain ⟨q1, q2, q3, q4, q5, q6, q7⟩ := nadd
  have HAS := Lib.hid (fun (W : World) (ha : PairsAt W (some ⟨w.heap.size + 1 + 1 + 1 + 1, 0, none⟩) [(x1, y1), (x2, y2), (x3, y3)]) => show Calls Try.prog 61 #[.slice (some ⟨w.heap.size + 1 + 1 + 1 + 1, 0, none⟩) 3 3] W fun e w' => e = .returned (.bool (mcOn x1 y1 x2 y2 x3 y3)) ∧ Below W.heap.size W w' from by rw [← three_ok]; exact areSpots_any (some ⟨w.heap.size + 1 + 1 + 1 + 1, 0, none⟩) 3 [(x1, y1), (x2, y2), (x3, y3)] (by simp) ha)
  have hpa : PairsAt (((((w.alloc (.cells #[.int .i64 x1, .int .i64 y1] 27)).alloc (.cells #[.int .i64 x2, .int .i64 y2] 27)).alloc (.cells #[.int .i64 x3, .int .i64 y3] 27)).alloc (.cells #[.int .i64 0, .int .i64 0] 27)).alloc (.cells #[.int .i64 x1, .int .i64 y1, .int .i64 x2, .int .i64 y2, .int .i64 x3, .int .i64 y3] 27)) (some ⟨w.heap.size + 1 + 1 + 1 + 1, 0, none⟩) [(x1, y1), (x2, y2), (x3, y3)] := by have h := three_at ((((w.alloc (.cells #[.int .i64 x1, .int .i64 y1] 27)).alloc (.cells #[.int .i64 x2, .int .i64 y2] 27)).alloc (.cells #[.int .i64 x3, .int .i64 y3] 27)).alloc (.cells #[.int .i64 0, .int .i64 0] 27)) x1 y1 x2 y2 x3 y3; simpa using h
  have HPA := Lib.hid hpa
  have HON := Lib.hid hv
  clear hpa
  clear hv
  all_goals
    go_enter Try.func39, Try.ntmps39
    go_wp2_with (first | (go_at_call 61; (refine (HAS.out _ HPA.out).mono ?_; rw [HON.out]; rintro e w1 ⟨rfl, hb1⟩; have hs1 := hb1.size; (try simp at hs1); have hk1 := call_facts (fun b h => h) hb1 (Nat.le_refl _); have hl1 := hk1.1)))
    first | exact bodyPost_ret (v := .tuple #[.agg #[.int .i64 0, .int .i64 0], .bool false]) (by simp [results, Try.results39, go_sem, *]) rfl ⟨rfl, (by repeat (first | exact Below.refl _ _ | assumption | refine Below.drew ?_ | refine below_drewN ?_ _ | refine Below.alloc ?_ (by first | omega | (simp; done) | (simp; omega)) _ | refine Below.setCell ?_ (by first | omega | (simp; done) | (simp; omega)) _ | refine Below.trans ?_ (Below.mono (by assumption) (by first | omega | (simp; done) | (simp; omega)))))⟩

set_option maxHeartbeats 8000000 in
theorem specMC_in (x1 y1 x2 y2 x3 y3 : Int) (hv : mcOn x1 y1 x2 y2 x3 y3 = true) (w : World) :
    Calls Try.prog 38 #[.agg #[.int .i64 x1, .int .i64 y1], .agg #[.int .i64 x2, .int .i64 y2], .agg #[.int .i64 x3, .int .i64 y3]] w fun e w' => e = .returned (.tuple #[.agg #[.int .i64 (guardI (mcIn x1 y1 x2 y2 x3 y3) (mcU x1 y1 x2 y2 x3 y3)), .int .i64 (guardI (mcIn x1 y1 x2 y2 x3 y3) (mcV x1 y1 x2 y2 x3 y3))], .bool (mcIn x1 y1 x2 y2 x3 y3)]) ∧ Below w.heap.size w w' := by
  obtain ⟨q1, q2, q3, q4, q5, q6, q7⟩ := nadd
  obtain ⟨⟨h1, h2⟩, h3⟩ : (onField x1 y1 = true ∧ onField x2 y2 = true) ∧ onField x3 y3 = true := by
    have h := hv
    unfold mcOn at h
    rw [Bool.and_eq_true, Bool.and_eq_true] at h
    exact h
  obtain ⟨⟨o1, o2⟩, o3, o4⟩ := onField_iff.1 h1
  obtain ⟨⟨o5, o6⟩, o7, o8⟩ := onField_iff.1 h2
  obtain ⟨⟨o9, o10⟩, o11, o12⟩ := onField_iff.1 h3
  have hU : mcU x1 y1 x2 y2 x3 y3 = x1 + (mcX (x2 - x1) (y2 - y1) (x3 - x1) (y3 - y1)).tdiv (mcD (x2 - x1) (y2 - y1) (x3 - x1) (y3 - y1)) := rfl
  have hV : mcV x1 y1 x2 y2 x3 y3 = y1 + (mcY (x2 - x1) (y2 - y1) (x3 - x1) (y3 - y1)).tdiv (mcD (x2 - x1) (y2 - y1) (x3 - x1) (y3 - y1)) := rfl
  have hI : mcIn x1 y1 x2 y2 x3 y3 = (mcQ (mcD (x2 - x1) (y2 - y1) (x3 - x1) (y3 - y1)) (mcX (x2 - x1) (y2 - y1) (x3 - x1) (y3 - y1)) (mcY (x2 - x1) (y2 - y1) (x3 - x1) (y3 - y1)) && onField (mcU x1 y1 x2 y2 x3 y3) (mcV x1 y1 x2 y2 x3 y3)) := rfl
  have hsb := sqr_from x1 y1 x2 y2
  have hsc := sqr_from x1 y1 x3 y3
  have HQB := Lib.hid (fun W => squareBetween_any x1 y1 x2 y2 h1 h2 W)
  have HQC := Lib.hid (fun W => squareBetween_any x1 y1 x3 y3 h1 h3 W)
  have HIF := Lib.hid (fun u v W => stIf_any u v W)
  have HSO := Lib.hid (fun u v W => spotOf_any u v W)
  obtain ⟨bx, hbx⟩ : ∃ z, z = x2 - x1 := ⟨_, rfl⟩
  obtain ⟨by', hby⟩ : ∃ z, z = y2 - y1 := ⟨_, rfl⟩
  obtain ⟨cx, hcx⟩ : ∃ z, z = x3 - x1 := ⟨_, rfl⟩
  obtain ⟨cy, hcy⟩ : ∃ z, z = y3 - y1 := ⟨_, rfl⟩
  rw [← hbx, ← hby] at hsb
  rw [← hcx, ← hcy] at hsc
  rw [← hbx, ← hby, ← hcx, ← hcy] at hU hV hI
  have v1 : IntKind.i64.wrap (x2 - x1) = bx := by rw [hbx]; exact IntWalk.i64_in _ (by omega)
  have v2 : IntKind.i64.wrap (y2 - y1) = by' := by rw [hby]; exact IntWalk.i64_in _ (by omega)
  have v3 : IntKind.i64.wrap (x3 - x1) = cx := by rw [hcx]; exact IntWalk.i64_in _ (by omega)
  have v4 : IntKind.i64.wrap (y3 - y1) = cy := by rw [hcy]; exact IntWalk.i64_in _ (by omega)
  have b1 := prod_bound (a := bx) (b := cy) (m := 1280) (n := 672) (by omega) (by omega) (by omega) (by omega) (by omega)
  have b2 := prod_bound (a := by') (b := cx) (m := 672) (n := 1280) (by omega) (by omega) (by omega) (by omega) (by omega)
  obtain ⟨s1, s2⟩ := sq_bound (a := bx) (m := 1280) (by omega) (by omega)
  obtain ⟨s3, s4⟩ := sq_bound (a := by') (m := 672) (by omega) (by omega)
  obtain ⟨s5, s6⟩ := sq_bound (a := cx) (m := 1280) (by omega) (by omega)
  obtain ⟨s7, s8⟩ := sq_bound (a := cy) (m := 672) (by omega) (by omega)
  obtain ⟨SB, hSB⟩ : ∃ z, z = bx * bx + by' * by' := ⟨_, rfl⟩
  obtain ⟨SC, hSC⟩ : ∃ z, z = cx * cx + cy * cy := ⟨_, rfl⟩
  rw [← hSB] at hsb
  rw [← hSC] at hsc
  have b3 := prod_bound (a := cy) (b := SB) (m := 672) (n := 2089984) (by omega) (by omega) (by omega) (by omega) (by omega)
  have b4 := prod_bound (a := by') (b := SC) (m := 672) (n := 2089984) (by omega) (by omega) (by omega) (by omega) (by omega)
  have b5 := prod_bound (a := bx) (b := SC) (m := 1280) (n := 2089984) (by omega) (by omega) (by omega) (by omega) (by omega)
  have b6 := prod_bound (a := cx) (b := SB) (m := 1280) (n := 2089984) (by omega) (by omega) (by omega) (by omega) (by omega)
  have v5 : IntKind.i64.wrap (bx * cy) = bx * cy := IntWalk.i64_in _ (by omega)
  have v6 : IntKind.i64.wrap (by' * cx) = by' * cx := IntWalk.i64_in _ (by omega)
  obtain ⟨C, hC⟩ : ∃ z, z = bx * cy - by' * cx := ⟨_, rfl⟩
  have v7 : IntKind.i64.wrap (bx * cy - by' * cx) = C := by rw [hC]; exact IntWalk.i64_in _ (by omega)
  have v8 : IntKind.i64.wrap (2 * C) = 2 * C := IntWalk.i64_in _ (by omega)
  have z41 : IntKind.i64.wrap (bx * bx) = bx * bx := IntWalk.i64_in _ (by omega)
  have z42 : IntKind.i64.wrap (by' * by') = by' * by' := IntWalk.i64_in _ (by omega)
  have z43 : IntKind.i64.wrap (cx * cx) = cx * cx := IntWalk.i64_in _ (by omega)
  have z44 : IntKind.i64.wrap (cy * cy) = cy * cy := IntWalk.i64_in _ (by omega)
  have z45 : IntKind.i64.wrap (bx * bx + by' * by') = SB := by rw [hSB]; exact IntWalk.i64_in _ (by omega)
  have z46 : IntKind.i64.wrap (cx * cx + cy * cy) = SC := by rw [hSC]; exact IntWalk.i64_in _ (by omega)
  obtain ⟨P1, hP1⟩ : ∃ z, z = cy * SB := ⟨_, rfl⟩
  obtain ⟨P2, hP2⟩ : ∃ z, z = by' * SC := ⟨_, rfl⟩
  obtain ⟨P3, hP3⟩ : ∃ z, z = bx * SC := ⟨_, rfl⟩
  obtain ⟨P4, hP4⟩ : ∃ z, z = cx * SB := ⟨_, rfl⟩
  rw [← hP1] at b3
  rw [← hP2] at b4
  rw [← hP3] at b5
  rw [← hP4] at b6
  have p1 : IntKind.i64.wrap (cy * SB) = P1 := by rw [hP1]; exact IntWalk.i64_in _ (by omega)
  have p2 : IntKind.i64.wrap (by' * SC) = P2 := by rw [hP2]; exact IntWalk.i64_in _ (by omega)
  have p3 : IntKind.i64.wrap (bx * SC) = P3 := by rw [hP3]; exact IntWalk.i64_in _ (by omega)
  have p4 : IntKind.i64.wrap (cx * SB) = P4 := by rw [hP4]; exact IntWalk.i64_in _ (by omega)
  have r1 : IntKind.i64.wrap (SB * cy) = P1 := by rw [Int.mul_comm, p1]
  have r2 : IntKind.i64.wrap (SC * by') = P2 := by rw [Int.mul_comm, p2]
  have r3 : IntKind.i64.wrap (SC * bx) = P3 := by rw [Int.mul_comm, p3]
  have r4 : IntKind.i64.wrap (SB * cx) = P4 := by rw [Int.mul_comm, p4]
  obtain ⟨X, hX⟩ : ∃ z, z = P1 - P2 := ⟨_, rfl⟩
  obtain ⟨Y, hY⟩ : ∃ z, z = P3 - P4 := ⟨_, rfl⟩
  have p5 : IntKind.i64.wrap (P1 - P2) = X := by rw [hX]; exact IntWalk.i64_in _ (by omega)
  have p6 : IntKind.i64.wrap (P3 - P4) = Y := by rw [hY]; exact IntWalk.i64_in _ (by omega)
  have eD : mcD bx by' cx cy = 2 * C := by unfold mcD; rw [← hC]
  have eX : mcX bx by' cx cy = X := by unfold mcX; rw [← hSB, ← hSC, ← hP1, ← hP2, ← hX]
  have eY : mcY bx by' cx cy = Y := by unfold mcY; rw [← hSB, ← hSC, ← hP3, ← hP4, ← hY]
  rw [eD, eX] at hU
  rw [eD, eY] at hV
  rw [eD, eX, eY] at hI
  have hx9 : -6000000000 ≤ X ∧ X ≤ 6000000000 := by omega
  have hy9 : -6000000000 ≤ Y ∧ Y ≤ 6000000000 := by omega
  have t1 := tdiv_abs (d := 2 * C) hx9.1 hx9.2
  have t2 := tdiv_abs (d := 2 * C) hy9.1 hy9.2
  have t3 : wrap64 (X.tdiv (2 * C)) = X.tdiv (2 * C) := IntWalk.wrap64_in _ ⟨by omega, by omega⟩
  have t4 : wrap64 (Y.tdiv (2 * C)) = Y.tdiv (2 * C) := IntWalk.wrap64_in _ ⟨by omega, by omega⟩
  have t3b : IntKind.i64.wrap (X.tdiv (2 * C)) = X.tdiv (2 * C) := IntWalk.i64_in _ (by omega)
  have t4b : IntKind.i64.wrap (Y.tdiv (2 * C)) = Y.tdiv (2 * C) := IntWalk.i64_in _ (by omega)
  have t5 : IntKind.i64.wrap (x1 + X.tdiv (2 * C)) = mcU x1 y1 x2 y2 x3 y3 := by rw [hU]; exact IntWalk.i64_in _ (by omega)
  have t6 : IntKind.i64.wrap (y1 + Y.tdiv (2 * C)) = mcV x1 y1 x2 y2 x3 y3 := by rw [hV]; exact IntWalk.i64_in _ (by omega)
  have HXY := Lib.hid (And.intro hx9 hy9)
  have HU := Lib.hid (fun W => stIf_any (mcU x1 y1 x2 y2 x3 y3) (mcV x1 y1 x2 y2 x3 y3) W)
  have HS := Lib.hid (fun W => spotOf_any (mcU x1 y1 x2 y2 x3 y3) (mcV x1 y1 x2 y2 x3 y3) W)
  rw [hsb] at HQB
  rw [hsc] at HQC
  obtain ⟨U, hUU⟩ : ∃ z, z = mcU x1 y1 x2 y2 x3 y3 := ⟨_, rfl⟩
  obtain ⟨V, hVV⟩ : ∃ z, z = mcV x1 y1 x2 y2 x3 y3 := ⟨_, rfl⟩
  rw [← hUU] at t5 hI HU HS
  rw [← hVV] at t6 hI HU HS
  rw [← hUU, ← hVV]
  have HI2 := Lib.hid hI
  clear hI hUU hVV hU hV eD eX eY hX hY hP1 hP2 hP3 hP4 hSB hSC hsb hsc hbx hby hcx hcy hC b1 b2 b3 b4 b5 b6 s1 s2 s3 s4 s5 s6 s7 s8 t1 t2 hx9 hy9 HIF HSO
  by_cases hc0 : C = 0
  · have kd : (2 * C == 0) = true := by rw [hc0]; rfl
    have kd1 : (C == 0) = true := by rw [hc0]; rfl
    have kd2 : 2 * C = 0 := by omega
    have hin : mcIn x1 y1 x2 y2 x3 y3 = false := by rw [HI2.out, show mcQ (2 * C) X Y = false by unfold mcQ; rw [kd2]; rfl]; rfl
    have HIN := Lib.hid hin
    clear hin HI2
    all_goals
      go_enter Try.func38, Try.ntmps38
      go_wp2_with (first | (go_at_call 52; (refine (stTwo_any _ _ _ _ _).mono ?_; rintro e w1 ⟨rfl, hb1⟩; have hs1 := hb1.size; (try simp at hs1); (first | have hk4 := call_facts hl3 hb1 (by simp) | skip); (first | have hk3 := call_facts hl2 hb1 (by simp) | skip); (first | have hk2 := call_facts hl1 hb1 (by simp) | skip); have hk1 := call_facts (fun b h => h) hb1 (Nat.le_refl _); (first | have hl4 := hk4.1 | skip); (first | have hl3 := hk3.1 | skip); (first | have hl2 := hk2.1 | skip); have hl1 := hk1.1)) | (go_at_call 55; (refine (stGood_any _ _ _).mono ?_; rintro e w1 ⟨rfl, hb1⟩; have hs1 := hb1.size; (try simp at hs1); (first | have hk4 := call_facts hl3 hb1 (by simp) | skip); (first | have hk3 := call_facts hl2 hb1 (by simp) | skip); (first | have hk2 := call_facts hl1 hb1 (by simp) | skip); have hk1 := call_facts (fun b h => h) hb1 (Nat.le_refl _); (first | have hl4 := hk4.1 | skip); (first | have hl3 := hk3.1 | skip); (first | have hl2 := hk2.1 | skip); have hl1 := hk1.1)))
      go_quiet (fail)
      go_wp2_with fail
      try clear v1 v2 v3 v4 v5 v6 v7 v8 z41 z42 z43 z44 z45 z46 p1 p2 p3 p4 p5 p6 r1 r2 r3 r4 HQB HQC HXY HS h1 h2 h3 o1 o2 o3 o4 o5 o6 o7 o8 o9 o10 o11 o12
      try (go_region_held3 (fun w' => w'.cell? ⟨w.heap.size, 0, none⟩ = some (.int .i64 x1) ∧ w'.cell? ⟨w.heap.size, 1, none⟩ = some (.int .i64 y1)) (refine ⟨?_, ?_⟩ <;> first | (go_keep; done) | (simp [*, World.cell?_alloc_past, World.cell?_setCell_far]; done) | (simp [*, World.cell?_alloc_past, World.cell?_alloc_at, World.cell?_setCell_far]; done) | (go_simp; done))
        (first | (go_at_call 45; (try simp only [t3b, t4b]); (try simp only [t5, t6]); (with_reducible refine (HU.out _).mono ?_; rintro e w1 ⟨rfl, hb1⟩; have hs1 := hb1.size; (try simp at hs1); (first | have hk4 := call_facts hl3 hb1 (by simp) | skip); (first | have hk3 := call_facts hl2 hb1 (by simp) | skip); (first | have hk2 := call_facts hl1 hb1 (by simp) | skip); have hk1 := call_facts (fun b h => h) hb1 (Nat.le_refl _); (first | have hl4 := hk4.1 | skip); (first | have hl3 := hk3.1 | skip); (first | have hl2 := hk2.1 | skip); have hl1 := hk1.1))))
      all_goals try go_wp2_with fail
      all_goals (first | exact bodyPost_ret (v := .tuple #[.agg #[.int .i64 0, .int .i64 0], .bool false]) (by simp [results, Try.results38, go_sem, *]) rfl ⟨(by first | (rw [HIN.out, HGU.out, HGV.out]; done) | (rw [HIN.out, HGU.out, HGV.out]; rfl) | (rw [HIN.out]; rfl)), (by repeat (first | exact Below.refl _ _ | assumption | refine Below.drew ?_ | refine below_drewN ?_ _ | refine Below.alloc ?_ (by first | omega | (simp; done) | (simp; omega)) _ | refine Below.setCell ?_ (by first | omega | (simp; done) | (simp; omega)) _ | refine Below.trans ?_ (Below.mono (by assumption) (by first | omega | (simp; done) | (simp; omega)))))⟩ | exact bodyPost_ret (v := .tuple #[.agg #[.int .i64 GU, .int .i64 GV], .bool K]) (by simp [results, Try.results38, go_sem, *]) rfl ⟨(by first | (rw [HIN.out, HGU.out, HGV.out]; done) | (rw [HIN.out, HGU.out, HGV.out]; rfl) | (rw [HIN.out]; rfl)), (by repeat (first | exact Below.refl _ _ | assumption | refine Below.drew ?_ | refine below_drewN ?_ _ | refine Below.alloc ?_ (by first | omega | (simp; done) | (simp; omega)) _ | refine Below.setCell ?_ (by first | omega | (simp; done) | (simp; omega)) _ | refine Below.trans ?_ (Below.mono (by assumption) (by first | omega | (simp; done) | (simp; omega)))))⟩)
  · have kd : (2 * C == 0) = false := by simp; omega
    have kd1 : (C == 0) = false := by simpa using hc0
    have kd2 : ¬ 2 * C = 0 := by omega
    by_cases hq1 : X.tmod (2 * C) = 0
    · have z1 : (X.tmod (2 * C) == 0) = true := by simpa using hq1
      have z2 : (X.tmod (2 * C) != 0) = false := by simpa using hq1
      by_cases hq2 : Y.tmod (2 * C) = 0
      · have z3 : (Y.tmod (2 * C) == 0) = true := by simpa using hq2
        have z4 : (Y.tmod (2 * C) != 0) = false := by simpa using hq2
        have hin : mcIn x1 y1 x2 y2 x3 y3 = onField U V := by rw [HI2.out, show mcQ (2 * C) X Y = true by unfold mcQ; rw [decide_eq_true hq1, decide_eq_true hq2, decide_eq_true kd2]; rfl]; rfl
        obtain ⟨K, hK⟩ : ∃ z, z = onField U V := ⟨_, rfl⟩
        rw [← hK] at hin HU HS
        obtain ⟨GU, hGU⟩ : ∃ z, z = guardI K U := ⟨_, rfl⟩
        obtain ⟨GV, hGV⟩ : ∃ z, z = guardI K V := ⟨_, rfl⟩
        rw [← hGU, ← hGV] at HU HS
        have HGU := Lib.hid hGU
        have HGV := Lib.hid hGV
        have HIN := Lib.hid hin
        clear hin HI2 hK hGU hGV
        all_goals
          go_enter Try.func38, Try.ntmps38
          go_wp2_with (first | (go_at_call 52; (refine (stTwo_any _ _ _ _ _).mono ?_; rintro e w1 ⟨rfl, hb1⟩; have hs1 := hb1.size; (try simp at hs1); (first | have hk4 := call_facts hl3 hb1 (by simp) | skip); (first | have hk3 := call_facts hl2 hb1 (by simp) | skip); (first | have hk2 := call_facts hl1 hb1 (by simp) | skip); have hk1 := call_facts (fun b h => h) hb1 (Nat.le_refl _); (first | have hl4 := hk4.1 | skip); (first | have hl3 := hk3.1 | skip); (first | have hl2 := hk2.1 | skip); have hl1 := hk1.1)) | (go_at_call 55; (refine (stGood_any _ _ _).mono ?_; rintro e w1 ⟨rfl, hb1⟩; have hs1 := hb1.size; (try simp at hs1); (first | have hk4 := call_facts hl3 hb1 (by simp) | skip); (first | have hk3 := call_facts hl2 hb1 (by simp) | skip); (first | have hk2 := call_facts hl1 hb1 (by simp) | skip); have hk1 := call_facts (fun b h => h) hb1 (Nat.le_refl _); (first | have hl4 := hk4.1 | skip); (first | have hl3 := hk3.1 | skip); (first | have hl2 := hk2.1 | skip); have hl1 := hk1.1)))
          go_quiet (fail)
          go_wp2_with fail
          try clear v1 v2 v3 v4 v5 v6 v7 v8 z41 z42 z43 z44 z45 z46 p1 p2 p3 p4 p5 p6 r1 r2 r3 r4 HQB HQC HXY HS h1 h2 h3 o1 o2 o3 o4 o5 o6 o7 o8 o9 o10 o11 o12
          try (go_region_held3 (fun w' => w'.cell? ⟨w.heap.size, 0, none⟩ = some (.int .i64 x1) ∧ w'.cell? ⟨w.heap.size, 1, none⟩ = some (.int .i64 y1)) (refine ⟨?_, ?_⟩ <;> first | (go_keep; done) | (simp [*, World.cell?_alloc_past, World.cell?_setCell_far]; done) | (simp [*, World.cell?_alloc_past, World.cell?_alloc_at, World.cell?_setCell_far]; done) | (go_simp; done))
            (first | (go_at_call 45; (try simp only [t3b, t4b]); (try simp only [t5, t6]); (with_reducible refine (HU.out _).mono ?_; rintro e w1 ⟨rfl, hb1⟩; have hs1 := hb1.size; (try simp at hs1); (first | have hk4 := call_facts hl3 hb1 (by simp) | skip); (first | have hk3 := call_facts hl2 hb1 (by simp) | skip); (first | have hk2 := call_facts hl1 hb1 (by simp) | skip); have hk1 := call_facts (fun b h => h) hb1 (Nat.le_refl _); (first | have hl4 := hk4.1 | skip); (first | have hl3 := hk3.1 | skip); (first | have hl2 := hk2.1 | skip); have hl1 := hk1.1))))
          all_goals try go_wp2_with fail
          all_goals (first | exact bodyPost_ret (v := .tuple #[.agg #[.int .i64 0, .int .i64 0], .bool false]) (by simp [results, Try.results38, go_sem, *]) rfl ⟨(by first | (rw [HIN.out, HGU.out, HGV.out]; done) | (rw [HIN.out, HGU.out, HGV.out]; rfl) | (rw [HIN.out]; rfl)), (by repeat (first | exact Below.refl _ _ | assumption | refine Below.drew ?_ | refine below_drewN ?_ _ | refine Below.alloc ?_ (by first | omega | (simp; done) | (simp; omega)) _ | refine Below.setCell ?_ (by first | omega | (simp; done) | (simp; omega)) _ | refine Below.trans ?_ (Below.mono (by assumption) (by first | omega | (simp; done) | (simp; omega)))))⟩ | exact bodyPost_ret (v := .tuple #[.agg #[.int .i64 GU, .int .i64 GV], .bool K]) (by simp [results, Try.results38, go_sem, *]) rfl ⟨(by first | (rw [HIN.out, HGU.out, HGV.out]; done) | (rw [HIN.out, HGU.out, HGV.out]; rfl) | (rw [HIN.out]; rfl)), (by repeat (first | exact Below.refl _ _ | assumption | refine Below.drew ?_ | refine below_drewN ?_ _ | refine Below.alloc ?_ (by first | omega | (simp; done) | (simp; omega)) _ | refine Below.setCell ?_ (by first | omega | (simp; done) | (simp; omega)) _ | refine Below.trans ?_ (Below.mono (by assumption) (by first | omega | (simp; done) | (simp; omega)))))⟩)
      · have z3 : (Y.tmod (2 * C) == 0) = false := by simpa using hq2
        have z4 : (Y.tmod (2 * C) != 0) = true := by simpa using hq2
        have hin : mcIn x1 y1 x2 y2 x3 y3 = false := by rw [HI2.out, show mcQ (2 * C) X Y = false by unfold mcQ; rw [decide_eq_false hq2]; simp]; rfl
        have HIN := Lib.hid hin
        clear hin HI2
        all_goals
          go_enter Try.func38, Try.ntmps38
          go_wp2_with (first | (go_at_call 52; (refine (stTwo_any _ _ _ _ _).mono ?_; rintro e w1 ⟨rfl, hb1⟩; have hs1 := hb1.size; (try simp at hs1); (first | have hk4 := call_facts hl3 hb1 (by simp) | skip); (first | have hk3 := call_facts hl2 hb1 (by simp) | skip); (first | have hk2 := call_facts hl1 hb1 (by simp) | skip); have hk1 := call_facts (fun b h => h) hb1 (Nat.le_refl _); (first | have hl4 := hk4.1 | skip); (first | have hl3 := hk3.1 | skip); (first | have hl2 := hk2.1 | skip); have hl1 := hk1.1)) | (go_at_call 55; (refine (stGood_any _ _ _).mono ?_; rintro e w1 ⟨rfl, hb1⟩; have hs1 := hb1.size; (try simp at hs1); (first | have hk4 := call_facts hl3 hb1 (by simp) | skip); (first | have hk3 := call_facts hl2 hb1 (by simp) | skip); (first | have hk2 := call_facts hl1 hb1 (by simp) | skip); have hk1 := call_facts (fun b h => h) hb1 (Nat.le_refl _); (first | have hl4 := hk4.1 | skip); (first | have hl3 := hk3.1 | skip); (first | have hl2 := hk2.1 | skip); have hl1 := hk1.1)))
          go_quiet (fail)
          go_wp2_with fail
          try clear v1 v2 v3 v4 v5 v6 v7 v8 z41 z42 z43 z44 z45 z46 p1 p2 p3 p4 p5 p6 r1 r2 r3 r4 HQB HQC HXY HS h1 h2 h3 o1 o2 o3 o4 o5 o6 o7 o8 o9 o10 o11 o12
          try (go_region_held3 (fun w' => w'.cell? ⟨w.heap.size, 0, none⟩ = some (.int .i64 x1) ∧ w'.cell? ⟨w.heap.size, 1, none⟩ = some (.int .i64 y1)) (refine ⟨?_, ?_⟩ <;> first | (go_keep; done) | (simp [*, World.cell?_alloc_past, World.cell?_setCell_far]; done) | (simp [*, World.cell?_alloc_past, World.cell?_alloc_at, World.cell?_setCell_far]; done) | (go_simp; done))
            (first | (go_at_call 45; (try simp only [t3b, t4b]); (try simp only [t5, t6]); (with_reducible refine (HU.out _).mono ?_; rintro e w1 ⟨rfl, hb1⟩; have hs1 := hb1.size; (try simp at hs1); (first | have hk4 := call_facts hl3 hb1 (by simp) | skip); (first | have hk3 := call_facts hl2 hb1 (by simp) | skip); (first | have hk2 := call_facts hl1 hb1 (by simp) | skip); have hk1 := call_facts (fun b h => h) hb1 (Nat.le_refl _); (first | have hl4 := hk4.1 | skip); (first | have hl3 := hk3.1 | skip); (first | have hl2 := hk2.1 | skip); have hl1 := hk1.1))))
          all_goals try go_wp2_with fail
          all_goals (first | exact bodyPost_ret (v := .tuple #[.agg #[.int .i64 0, .int .i64 0], .bool false]) (by simp [results, Try.results38, go_sem, *]) rfl ⟨(by first | (rw [HIN.out, HGU.out, HGV.out]; done) | (rw [HIN.out, HGU.out, HGV.out]; rfl) | (rw [HIN.out]; rfl)), (by repeat (first | exact Below.refl _ _ | assumption | refine Below.drew ?_ | refine below_drewN ?_ _ | refine Below.alloc ?_ (by first | omega | (simp; done) | (simp; omega)) _ | refine Below.setCell ?_ (by first | omega | (simp; done) | (simp; omega)) _ | refine Below.trans ?_ (Below.mono (by assumption) (by first | omega | (simp; done) | (simp; omega)))))⟩ | exact bodyPost_ret (v := .tuple #[.agg #[.int .i64 GU, .int .i64 GV], .bool K]) (by simp [results, Try.results38, go_sem, *]) rfl ⟨(by first | (rw [HIN.out, HGU.out, HGV.out]; done) | (rw [HIN.out, HGU.out, HGV.out]; rfl) | (rw [HIN.out]; rfl)), (by repeat (first | exact Below.refl _ _ | assumption | refine Below.drew ?_ | refine below_drewN ?_ _ | refine Below.alloc ?_ (by first | omega | (simp; done) | (simp; omega)) _ | refine Below.setCell ?_ (by first | omega | (simp; done) | (simp; omega)) _ | refine Below.trans ?_ (Below.mono (by assumption) (by first | omega | (simp; done) | (simp; omega)))))⟩)
    · have z1 : (X.tmod (2 * C) == 0) = false := by simpa using hq1
      have z2 : (X.tmod (2 * C) != 0) = true := by simpa using hq1
      have hin : mcIn x1 y1 x2 y2 x3 y3 = false := by rw [HI2.out, show mcQ (2 * C) X Y = false by unfold mcQ; rw [decide_eq_false hq1]; simp]; rfl
      have HIN := Lib.hid hin
      clear hin HI2
      all_goals
        go_enter Try.func38, Try.ntmps38
        go_wp2_with (first | (go_at_call 52; (refine (stTwo_any _ _ _ _ _).mono ?_; rintro e w1 ⟨rfl, hb1⟩; have hs1 := hb1.size; (try simp at hs1); (first | have hk4 := call_facts hl3 hb1 (by simp) | skip); (first | have hk3 := call_facts hl2 hb1 (by simp) | skip); (first | have hk2 := call_facts hl1 hb1 (by simp) | skip); have hk1 := call_facts (fun b h => h) hb1 (Nat.le_refl _); (first | have hl4 := hk4.1 | skip); (first | have hl3 := hk3.1 | skip); (first | have hl2 := hk2.1 | skip); have hl1 := hk1.1)) | (go_at_call 55; (refine (stGood_any _ _ _).mono ?_; rintro e w1 ⟨rfl, hb1⟩; have hs1 := hb1.size; (try simp at hs1); (first | have hk4 := call_facts hl3 hb1 (by simp) | skip); (first | have hk3 := call_facts hl2 hb1 (by simp) | skip); (first | have hk2 := call_facts hl1 hb1 (by simp) | skip); have hk1 := call_facts (fun b h => h) hb1 (Nat.le_refl _); (first | have hl4 := hk4.1 | skip); (first | have hl3 := hk3.1 | skip); (first | have hl2 := hk2.1 | skip); have hl1 := hk1.1)))
        go_quiet (fail)
        go_wp2_with fail
        try clear v1 v2 v3 v4 v5 v6 v7 v8 z41 z42 z43 z44 z45 z46 p1 p2 p3 p4 p5 p6 r1 r2 r3 r4 HQB HQC HXY HS h1 h2 h3 o1 o2 o3 o4 o5 o6 o7 o8 o9 o10 o11 o12
        try (go_region_held3 (fun w' => w'.cell? ⟨w.heap.size, 0, none⟩ = some (.int .i64 x1) ∧ w'.cell? ⟨w.heap.size, 1, none⟩ = some (.int .i64 y1)) (refine ⟨?_, ?_⟩ <;> first | (go_keep; done) | (simp [*, World.cell?_alloc_past, World.cell?_setCell_far]; done) | (simp [*, World.cell?_alloc_past, World.cell?_alloc_at, World.cell?_setCell_far]; done) | (go_simp; done))
          (first | (go_at_call 45; (try simp only [t3b, t4b]); (try simp only [t5, t6]); (with_reducible refine (HU.out _).mono ?_; rintro e w1 ⟨rfl, hb1⟩; have hs1 := hb1.size; (try simp at hs1); (first | have hk4 := call_facts hl3 hb1 (by simp) | skip); (first | have hk3 := call_facts hl2 hb1 (by simp) | skip); (first | have hk2 := call_facts hl1 hb1 (by simp) | skip); have hk1 := call_facts (fun b h => h) hb1 (Nat.le_refl _); (first | have hl4 := hk4.1 | skip); (first | have hl3 := hk3.1 | skip); (first | have hl2 := hk2.1 | skip); have hl1 := hk1.1))))
        all_goals try go_wp2_with fail
        all_goals (first | exact bodyPost_ret (v := .tuple #[.agg #[.int .i64 0, .int .i64 0], .bool false]) (by simp [results, Try.results38, go_sem, *]) rfl ⟨(by first | (rw [HIN.out, HGU.out, HGV.out]; done) | (rw [HIN.out, HGU.out, HGV.out]; rfl) | (rw [HIN.out]; rfl)), (by repeat (first | exact Below.refl _ _ | assumption | refine Below.drew ?_ | refine below_drewN ?_ _ | refine Below.alloc ?_ (by first | omega | (simp; done) | (simp; omega)) _ | refine Below.setCell ?_ (by first | omega | (simp; done) | (simp; omega)) _ | refine Below.trans ?_ (Below.mono (by assumption) (by first | omega | (simp; done) | (simp; omega)))))⟩ | exact bodyPost_ret (v := .tuple #[.agg #[.int .i64 GU, .int .i64 GV], .bool K]) (by simp [results, Try.results38, go_sem, *]) rfl ⟨(by first | (rw [HIN.out, HGU.out, HGV.out]; done) | (rw [HIN.out, HGU.out, HGV.out]; rfl) | (rw [HIN.out]; rfl)), (by repeat (first | exact Below.refl _ _ | assumption | refine Below.drew ?_ | refine below_drewN ?_ _ | refine Below.alloc ?_ (by first | omega | (simp; done) | (simp; omega)) _ | refine Below.setCell ?_ (by first | omega | (simp; done) | (simp; omega)) _ | refine Below.trans ?_ (Below.mono (by assumption) (by first | omega | (simp; done) | (simp; omega)))))⟩)

set_option maxHeartbeats 8000000 in
theorem mc_in (x1 y1 x2 y2 x3 y3 : Int) (hv : mcOn x1 y1 x2 y2 x3 y3 = true) (w : World) :
    Calls Try.prog 39 #[.agg #[.int .i64 x1, .int .i64 y1], .agg #[.int .i64 x2, .int .i64 y2], .agg #[.int .i64 x3, .int .i64 y3]] w fun e w' => e = .returned (.tuple #[.agg #[.int .i64 (guardI (mcIn x1 y1 x2 y2 x3 y3) (mcU x1 y1 x2 y2 x3 y3)), .int .i64 (guardI (mcIn x1 y1 x2 y2 x3 y3) (mcV x1 y1 x2 y2 x3 y3))], .bool (mcIn x1 y1 x2 y2 x3 y3)]) ∧ Below w.heap.size w w' := by
  obtain ⟨q1, q2, q3, q4, q5, q6, q7⟩ := nadd
  have HAS := Lib.hid (fun (W : World) (ha : PairsAt W (some ⟨w.heap.size + 1 + 1 + 1 + 1, 0, none⟩) [(x1, y1), (x2, y2), (x3, y3)]) => show Calls Try.prog 61 #[.slice (some ⟨w.heap.size + 1 + 1 + 1 + 1, 0, none⟩) 3 3] W fun e w' => e = .returned (.bool (mcOn x1 y1 x2 y2 x3 y3)) ∧ Below W.heap.size W w' from by rw [← three_ok]; exact areSpots_any (some ⟨w.heap.size + 1 + 1 + 1 + 1, 0, none⟩) 3 [(x1, y1), (x2, y2), (x3, y3)] (by simp) ha)
  have hpa : PairsAt (((((w.alloc (.cells #[.int .i64 x1, .int .i64 y1] 27)).alloc (.cells #[.int .i64 x2, .int .i64 y2] 27)).alloc (.cells #[.int .i64 x3, .int .i64 y3] 27)).alloc (.cells #[.int .i64 0, .int .i64 0] 27)).alloc (.cells #[.int .i64 x1, .int .i64 y1, .int .i64 x2, .int .i64 y2, .int .i64 x3, .int .i64 y3] 27)) (some ⟨w.heap.size + 1 + 1 + 1 + 1, 0, none⟩) [(x1, y1), (x2, y2), (x3, y3)] := by have h := three_at ((((w.alloc (.cells #[.int .i64 x1, .int .i64 y1] 27)).alloc (.cells #[.int .i64 x2, .int .i64 y2] 27)).alloc (.cells #[.int .i64 x3, .int .i64 y3] 27)).alloc (.cells #[.int .i64 0, .int .i64 0] 27)) x1 y1 x2 y2 x3 y3; simpa using h
  have HPA := Lib.hid hpa
  have HON := Lib.hid hv
  clear hpa
  obtain ⟨⟨h1, h2⟩, h3⟩ : (onField x1 y1 = true ∧ onField x2 y2 = true) ∧ onField x3 y3 = true := by
    have h := hv
    unfold mcOn at h
    rw [Bool.and_eq_true, Bool.and_eq_true] at h
    exact h
  obtain ⟨⟨o1, o2⟩, o3, o4⟩ := onField_iff.1 h1
  obtain ⟨⟨o5, o6⟩, o7, o8⟩ := onField_iff.1 h2
  obtain ⟨⟨o9, o10⟩, o11, o12⟩ := onField_iff.1 h3
  have hU : mcU x1 y1 x2 y2 x3 y3 = x1 + (mcX (x2 - x1) (y2 - y1) (x3 - x1) (y3 - y1)).tdiv (mcD (x2 - x1) (y2 - y1) (x3 - x1) (y3 - y1)) := rfl
  have hV : mcV x1 y1 x2 y2 x3 y3 = y1 + (mcY (x2 - x1) (y2 - y1) (x3 - x1) (y3 - y1)).tdiv (mcD (x2 - x1) (y2 - y1) (x3 - x1) (y3 - y1)) := rfl
  have hI : mcIn x1 y1 x2 y2 x3 y3 = (mcQ (mcD (x2 - x1) (y2 - y1) (x3 - x1) (y3 - y1)) (mcX (x2 - x1) (y2 - y1) (x3 - x1) (y3 - y1)) (mcY (x2 - x1) (y2 - y1) (x3 - x1) (y3 - y1)) && onField (mcU x1 y1 x2 y2 x3 y3) (mcV x1 y1 x2 y2 x3 y3)) := rfl
  have hsb := sqr_from x1 y1 x2 y2
  have hsc := sqr_from x1 y1 x3 y3
  have HQB := Lib.hid (fun W => squareBetween_any x1 y1 x2 y2 h1 h2 W)
  have HQC := Lib.hid (fun W => squareBetween_any x1 y1 x3 y3 h1 h3 W)
  have HIF := Lib.hid (fun u v W => stIf_any u v W)
  have HSO := Lib.hid (fun u v W => spotOf_any u v W)
  obtain ⟨bx, hbx⟩ : ∃ z, z = x2 - x1 := ⟨_, rfl⟩
  obtain ⟨by', hby⟩ : ∃ z, z = y2 - y1 := ⟨_, rfl⟩
  obtain ⟨cx, hcx⟩ : ∃ z, z = x3 - x1 := ⟨_, rfl⟩
  obtain ⟨cy, hcy⟩ : ∃ z, z = y3 - y1 := ⟨_, rfl⟩
  rw [← hbx, ← hby] at hsb
  rw [← hcx, ← hcy] at hsc
  rw [← hbx, ← hby, ← hcx, ← hcy] at hU hV hI
  have v1 : IntKind.i64.wrap (x2 - x1) = bx := by rw [hbx]; exact IntWalk.i64_in _ (by omega)
  have v2 : IntKind.i64.wrap (y2 - y1) = by' := by rw [hby]; exact IntWalk.i64_in _ (by omega)
  have v3 : IntKind.i64.wrap (x3 - x1) = cx := by rw [hcx]; exact IntWalk.i64_in _ (by omega)
  have v4 : IntKind.i64.wrap (y3 - y1) = cy := by rw [hcy]; exact IntWalk.i64_in _ (by omega)
  have b1 := prod_bound (a := bx) (b := cy) (m := 1280) (n := 672) (by omega) (by omega) (by omega) (by omega) (by omega)
  have b2 := prod_bound (a := by') (b := cx) (m := 672) (n := 1280) (by omega) (by omega) (by omega) (by omega) (by omega)
  obtain ⟨s1, s2⟩ := sq_bound (a := bx) (m := 1280) (by omega) (by omega)
  obtain ⟨s3, s4⟩ := sq_bound (a := by') (m := 672) (by omega) (by omega)
  obtain ⟨s5, s6⟩ := sq_bound (a := cx) (m := 1280) (by omega) (by omega)
  obtain ⟨s7, s8⟩ := sq_bound (a := cy) (m := 672) (by omega) (by omega)
  obtain ⟨SB, hSB⟩ : ∃ z, z = bx * bx + by' * by' := ⟨_, rfl⟩
  obtain ⟨SC, hSC⟩ : ∃ z, z = cx * cx + cy * cy := ⟨_, rfl⟩
  rw [← hSB] at hsb
  rw [← hSC] at hsc
  have b3 := prod_bound (a := cy) (b := SB) (m := 672) (n := 2089984) (by omega) (by omega) (by omega) (by omega) (by omega)
  have b4 := prod_bound (a := by') (b := SC) (m := 672) (n := 2089984) (by omega) (by omega) (by omega) (by omega) (by omega)
  have b5 := prod_bound (a := bx) (b := SC) (m := 1280) (n := 2089984) (by omega) (by omega) (by omega) (by omega) (by omega)
  have b6 := prod_bound (a := cx) (b := SB) (m := 1280) (n := 2089984) (by omega) (by omega) (by omega) (by omega) (by omega)
  have v5 : IntKind.i64.wrap (bx * cy) = bx * cy := IntWalk.i64_in _ (by omega)
  have v6 : IntKind.i64.wrap (by' * cx) = by' * cx := IntWalk.i64_in _ (by omega)
  obtain ⟨C, hC⟩ : ∃ z, z = bx * cy - by' * cx := ⟨_, rfl⟩
  have v7 : IntKind.i64.wrap (bx * cy - by' * cx) = C := by rw [hC]; exact IntWalk.i64_in _ (by omega)
  have v8 : IntKind.i64.wrap (2 * C) = 2 * C := IntWalk.i64_in _ (by omega)
  have z41 : IntKind.i64.wrap (bx * bx) = bx * bx := IntWalk.i64_in _ (by omega)
  have z42 : IntKind.i64.wrap (by' * by') = by' * by' := IntWalk.i64_in _ (by omega)
  have z43 : IntKind.i64.wrap (cx * cx) = cx * cx := IntWalk.i64_in _ (by omega)
  have z44 : IntKind.i64.wrap (cy * cy) = cy * cy := IntWalk.i64_in _ (by omega)
  have z45 : IntKind.i64.wrap (bx * bx + by' * by') = SB := by rw [hSB]; exact IntWalk.i64_in _ (by omega)
  have z46 : IntKind.i64.wrap (cx * cx + cy * cy) = SC := by rw [hSC]; exact IntWalk.i64_in _ (by omega)
  obtain ⟨P1, hP1⟩ : ∃ z, z = cy * SB := ⟨_, rfl⟩
  obtain ⟨P2, hP2⟩ : ∃ z, z = by' * SC := ⟨_, rfl⟩
  obtain ⟨P3, hP3⟩ : ∃ z, z = bx * SC := ⟨_, rfl⟩
  obtain ⟨P4, hP4⟩ : ∃ z, z = cx * SB := ⟨_, rfl⟩
  rw [← hP1] at b3
  rw [← hP2] at b4
  rw [← hP3] at b5
  rw [← hP4] at b6
  have p1 : IntKind.i64.wrap (cy * SB) = P1 := by rw [hP1]; exact IntWalk.i64_in _ (by omega)
  have p2 : IntKind.i64.wrap (by' * SC) = P2 := by rw [hP2]; exact IntWalk.i64_in _ (by omega)
  have p3 : IntKind.i64.wrap (bx * SC) = P3 := by rw [hP3]; exact IntWalk.i64_in _ (by omega)
  have p4 : IntKind.i64.wrap (cx * SB) = P4 := by rw [hP4]; exact IntWalk.i64_in _ (by omega)
  have r1 : IntKind.i64.wrap (SB * cy) = P1 := by rw [Int.mul_comm, p1]
  have r2 : IntKind.i64.wrap (SC * by') = P2 := by rw [Int.mul_comm, p2]
  have r3 : IntKind.i64.wrap (SC * bx) = P3 := by rw [Int.mul_comm, p3]
  have r4 : IntKind.i64.wrap (SB * cx) = P4 := by rw [Int.mul_comm, p4]
  obtain ⟨X, hX⟩ : ∃ z, z = P1 - P2 := ⟨_, rfl⟩
  obtain ⟨Y, hY⟩ : ∃ z, z = P3 - P4 := ⟨_, rfl⟩
  have p5 : IntKind.i64.wrap (P1 - P2) = X := by rw [hX]; exact IntWalk.i64_in _ (by omega)
  have p6 : IntKind.i64.wrap (P3 - P4) = Y := by rw [hY]; exact IntWalk.i64_in _ (by omega)
  have eD : mcD bx by' cx cy = 2 * C := by unfold mcD; rw [← hC]
  have eX : mcX bx by' cx cy = X := by unfold mcX; rw [← hSB, ← hSC, ← hP1, ← hP2, ← hX]
  have eY : mcY bx by' cx cy = Y := by unfold mcY; rw [← hSB, ← hSC, ← hP3, ← hP4, ← hY]
  rw [eD, eX] at hU
  rw [eD, eY] at hV
  rw [eD, eX, eY] at hI
  have hx9 : -6000000000 ≤ X ∧ X ≤ 6000000000 := by omega
  have hy9 : -6000000000 ≤ Y ∧ Y ≤ 6000000000 := by omega
  have t1 := tdiv_abs (d := 2 * C) hx9.1 hx9.2
  have t2 := tdiv_abs (d := 2 * C) hy9.1 hy9.2
  have t3 : wrap64 (X.tdiv (2 * C)) = X.tdiv (2 * C) := IntWalk.wrap64_in _ ⟨by omega, by omega⟩
  have t4 : wrap64 (Y.tdiv (2 * C)) = Y.tdiv (2 * C) := IntWalk.wrap64_in _ ⟨by omega, by omega⟩
  have t3b : IntKind.i64.wrap (X.tdiv (2 * C)) = X.tdiv (2 * C) := IntWalk.i64_in _ (by omega)
  have t4b : IntKind.i64.wrap (Y.tdiv (2 * C)) = Y.tdiv (2 * C) := IntWalk.i64_in _ (by omega)
  have t5 : IntKind.i64.wrap (x1 + X.tdiv (2 * C)) = mcU x1 y1 x2 y2 x3 y3 := by rw [hU]; exact IntWalk.i64_in _ (by omega)
  have t6 : IntKind.i64.wrap (y1 + Y.tdiv (2 * C)) = mcV x1 y1 x2 y2 x3 y3 := by rw [hV]; exact IntWalk.i64_in _ (by omega)
  have HXY := Lib.hid (And.intro hx9 hy9)
  have HU := Lib.hid (fun W => stIf_any (mcU x1 y1 x2 y2 x3 y3) (mcV x1 y1 x2 y2 x3 y3) W)
  have HS := Lib.hid (fun W => spotOf_any (mcU x1 y1 x2 y2 x3 y3) (mcV x1 y1 x2 y2 x3 y3) W)
  rw [hsb] at HQB
  rw [hsc] at HQC
  obtain ⟨U, hUU⟩ : ∃ z, z = mcU x1 y1 x2 y2 x3 y3 := ⟨_, rfl⟩
  obtain ⟨V, hVV⟩ : ∃ z, z = mcV x1 y1 x2 y2 x3 y3 := ⟨_, rfl⟩
  rw [← hUU] at t5 hI HU HS
  rw [← hVV] at t6 hI HU HS
  rw [← hUU, ← hVV]
  have HI2 := Lib.hid hI
  clear hI hUU hVV hU hV eD eX eY hX hY hP1 hP2 hP3 hP4 hSB hSC hsb hsc hbx hby hcx hcy hC b1 b2 b3 b4 b5 b6 s1 s2 s3 s4 s5 s6 s7 s8 t1 t2 hx9 hy9 HIF HSO
  by_cases hc0 : C = 0
  · have kd : (2 * C == 0) = true := by rw [hc0]; rfl
    have kd1 : (C == 0) = true := by rw [hc0]; rfl
    have kd2 : 2 * C = 0 := by omega
    have hin : mcIn x1 y1 x2 y2 x3 y3 = false := by rw [HI2.out, show mcQ (2 * C) X Y = false by unfold mcQ; rw [kd2]; rfl]; rfl
    have HIN := Lib.hid hin
    clear hin HI2
    all_goals
      first | have he1 := fun W => exactQuotient_any X (2 * C) HXY.out.1.1 HXY.out.1.2 kd2 W | have he1 := trivial
      first | have he2 := fun W => exactQuotient_any Y (2 * C) HXY.out.2.1 HXY.out.2.2 kd2 W | have he2 := trivial
      try rw [decide_eq_true hq1] at he1
      try rw [decide_eq_false hq1] at he1
      try rw [decide_eq_true hq2] at he2
      try rw [decide_eq_false hq2] at he2
      try simp only [guardI_facts.1, guardI_facts.2] at he1
      try simp only [guardI_facts.1, guardI_facts.2] at he2
      have HE1 := Lib.hid he1
      have HE2 := Lib.hid he2
      clear he1 he2
      go_enter Try.func39, Try.ntmps39
      go_wp2_with (first | (go_at_call 61; (refine (HAS.out _ HPA.out).mono ?_; rw [HON.out]; rintro e w1 ⟨rfl, hb1⟩; have hs1 := hb1.size; (try simp at hs1); have hk1 := call_facts (fun b h => h) hb1 (Nat.le_refl _); have hl1 := hk1.1)))
      go_quiet (fail)
      go_wp2_with fail
      go_quiet (fail)
      go_wp2_with fail
      try (go_region_held3 (fun w' => w'.cell? ⟨w.heap.size, 0, none⟩ = some (.int .i64 x1) ∧ w'.cell? ⟨w.heap.size, 1, none⟩ = some (.int .i64 y1) ∧ w'.cell? ⟨w.heap.size + 1, 0, none⟩ = some (.int .i64 x2) ∧ w'.cell? ⟨w.heap.size + 1, 1, none⟩ = some (.int .i64 y2) ∧ w'.cell? ⟨w.heap.size + 1 + 1, 0, none⟩ = some (.int .i64 x3) ∧ w'.cell? ⟨w.heap.size + 1 + 1, 1, none⟩ = some (.int .i64 y3)) (refine ⟨?_, ?_, ?_, ?_, ?_, ?_⟩ <;> first | (go_keep; done) | (simp [*, World.cell?_alloc_past, World.cell?_setCell_far]; done) | (simp [*, World.cell?_alloc_past, World.cell?_alloc_at, World.cell?_setCell_far]; done) | (go_simp; done))
        (first | (go_at_call 57; (with_reducible refine (HQB.out _).mono ?_; rintro e w1 ⟨rfl, hb1⟩; have hs1 := hb1.size; (try simp at hs1); (first | have hk4 := call_facts hl3 hb1 (by simp) | skip); (first | have hk3 := call_facts hl2 hb1 (by simp) | skip); (first | have hk2 := call_facts hl1 hb1 (by simp) | skip); have hk1 := call_facts (fun b h => h) hb1 (Nat.le_refl _); (first | have hl4 := hk4.1 | skip); (first | have hl3 := hk3.1 | skip); (first | have hl2 := hk2.1 | skip); have hl1 := hk1.1)) | (go_at_call 57; (with_reducible refine (HQC.out _).mono ?_; rintro e w1 ⟨rfl, hb1⟩; have hs1 := hb1.size; (try simp at hs1); (first | have hk4 := call_facts hl3 hb1 (by simp) | skip); (first | have hk3 := call_facts hl2 hb1 (by simp) | skip); (first | have hk2 := call_facts hl1 hb1 (by simp) | skip); have hk1 := call_facts (fun b h => h) hb1 (Nat.le_refl _); (first | have hl4 := hk4.1 | skip); (first | have hl3 := hk3.1 | skip); (first | have hl2 := hk2.1 | skip); have hl1 := hk1.1))))
      all_goals try go_wp2_with (first | (go_at_call 62; ((with_reducible refine (HE1.out _).mono ?_); rintro e w' ⟨rfl, rfl⟩)) | (go_at_call 62; ((with_reducible refine (HE2.out _).mono ?_); rintro e w' ⟨rfl, rfl⟩)) | (go_at_call 47; (with_reducible refine (HS.out _).mono ?_; rintro e w1 ⟨rfl, hb1⟩; have hs1 := hb1.size; (try simp at hs1); (first | have hk4 := call_facts hl3 hb1 (by simp) | skip); (first | have hk3 := call_facts hl2 hb1 (by simp) | skip); (first | have hk2 := call_facts hl1 hb1 (by simp) | skip); have hk1 := call_facts (fun b h => h) hb1 (Nat.le_refl _); (first | have hl4 := hk4.1 | skip); (first | have hl3 := hk3.1 | skip); (first | have hl2 := hk2.1 | skip); have hl1 := hk1.1)))
      all_goals (first | exact bodyPost_ret (v := .tuple #[.agg #[.int .i64 0, .int .i64 0], .bool false]) (by simp [results, Try.results39, go_sem, *]) rfl ⟨(by first | (rw [HIN.out, HGU.out, HGV.out]; done) | (rw [HIN.out, HGU.out, HGV.out]; rfl) | (rw [HIN.out]; rfl)), (by repeat (first | exact Below.refl _ _ | assumption | refine Below.drew ?_ | refine below_drewN ?_ _ | refine Below.alloc ?_ (by first | omega | (simp; done) | (simp; omega)) _ | refine Below.setCell ?_ (by first | omega | (simp; done) | (simp; omega)) _ | refine Below.trans ?_ (Below.mono (by assumption) (by first | omega | (simp; done) | (simp; omega)))))⟩ | exact bodyPost_ret (v := .tuple #[.agg #[.int .i64 GU, .int .i64 GV], .bool K]) (by simp [results, Try.results39, go_sem, *]) rfl ⟨(by first | (rw [HIN.out, HGU.out, HGV.out]; done) | (rw [HIN.out, HGU.out, HGV.out]; rfl) | (rw [HIN.out]; rfl)), (by repeat (first | exact Below.refl _ _ | assumption | refine Below.drew ?_ | refine below_drewN ?_ _ | refine Below.alloc ?_ (by first | omega | (simp; done) | (simp; omega)) _ | refine Below.setCell ?_ (by first | omega | (simp; done) | (simp; omega)) _ | refine Below.trans ?_ (Below.mono (by assumption) (by first | omega | (simp; done) | (simp; omega)))))⟩)
  · have kd : (2 * C == 0) = false := by simp; omega
    have kd1 : (C == 0) = false := by simpa using hc0
    have kd2 : ¬ 2 * C = 0 := by omega
    by_cases hq1 : X.tmod (2 * C) = 0
    · have z1 : (X.tmod (2 * C) == 0) = true := by simpa using hq1
      have z2 : (X.tmod (2 * C) != 0) = false := by simpa using hq1
      by_cases hq2 : Y.tmod (2 * C) = 0
      · have z3 : (Y.tmod (2 * C) == 0) = true := by simpa using hq2
        have z4 : (Y.tmod (2 * C) != 0) = false := by simpa using hq2
        have hin : mcIn x1 y1 x2 y2 x3 y3 = onField U V := by rw [HI2.out, show mcQ (2 * C) X Y = true by unfold mcQ; rw [decide_eq_true hq1, decide_eq_true hq2, decide_eq_true kd2]; rfl]; rfl
        obtain ⟨K, hK⟩ : ∃ z, z = onField U V := ⟨_, rfl⟩
        rw [← hK] at hin HU HS
        obtain ⟨GU, hGU⟩ : ∃ z, z = guardI K U := ⟨_, rfl⟩
        obtain ⟨GV, hGV⟩ : ∃ z, z = guardI K V := ⟨_, rfl⟩
        rw [← hGU, ← hGV] at HU HS
        have HGU := Lib.hid hGU
        have HGV := Lib.hid hGV
        have HIN := Lib.hid hin
        clear hin HI2 hK hGU hGV
        all_goals
          first | have he1 := fun W => exactQuotient_any X (2 * C) HXY.out.1.1 HXY.out.1.2 kd2 W | have he1 := trivial
          first | have he2 := fun W => exactQuotient_any Y (2 * C) HXY.out.2.1 HXY.out.2.2 kd2 W | have he2 := trivial
          try rw [decide_eq_true hq1] at he1
          try rw [decide_eq_false hq1] at he1
          try rw [decide_eq_true hq2] at he2
          try rw [decide_eq_false hq2] at he2
          try simp only [guardI_facts.1, guardI_facts.2] at he1
          try simp only [guardI_facts.1, guardI_facts.2] at he2
          have HE1 := Lib.hid he1
          have HE2 := Lib.hid he2
          clear he1 he2
          go_enter Try.func39, Try.ntmps39
          go_wp2_with (first | (go_at_call 61; (refine (HAS.out _ HPA.out).mono ?_; rw [HON.out]; rintro e w1 ⟨rfl, hb1⟩; have hs1 := hb1.size; (try simp at hs1); have hk1 := call_facts (fun b h => h) hb1 (Nat.le_refl _); have hl1 := hk1.1)))
          go_quiet (fail)
          go_wp2_with fail
          go_quiet (fail)
          go_wp2_with fail
          try (go_region_held3 (fun w' => w'.cell? ⟨w.heap.size, 0, none⟩ = some (.int .i64 x1) ∧ w'.cell? ⟨w.heap.size, 1, none⟩ = some (.int .i64 y1) ∧ w'.cell? ⟨w.heap.size + 1, 0, none⟩ = some (.int .i64 x2) ∧ w'.cell? ⟨w.heap.size + 1, 1, none⟩ = some (.int .i64 y2) ∧ w'.cell? ⟨w.heap.size + 1 + 1, 0, none⟩ = some (.int .i64 x3) ∧ w'.cell? ⟨w.heap.size + 1 + 1, 1, none⟩ = some (.int .i64 y3)) (refine ⟨?_, ?_, ?_, ?_, ?_, ?_⟩ <;> first | (go_keep; done) | (simp [*, World.cell?_alloc_past, World.cell?_setCell_far]; done) | (simp [*, World.cell?_alloc_past, World.cell?_alloc_at, World.cell?_setCell_far]; done) | (go_simp; done))
            (first | (go_at_call 57; (with_reducible refine (HQB.out _).mono ?_; rintro e w1 ⟨rfl, hb1⟩; have hs1 := hb1.size; (try simp at hs1); (first | have hk4 := call_facts hl3 hb1 (by simp) | skip); (first | have hk3 := call_facts hl2 hb1 (by simp) | skip); (first | have hk2 := call_facts hl1 hb1 (by simp) | skip); have hk1 := call_facts (fun b h => h) hb1 (Nat.le_refl _); (first | have hl4 := hk4.1 | skip); (first | have hl3 := hk3.1 | skip); (first | have hl2 := hk2.1 | skip); have hl1 := hk1.1)) | (go_at_call 57; (with_reducible refine (HQC.out _).mono ?_; rintro e w1 ⟨rfl, hb1⟩; have hs1 := hb1.size; (try simp at hs1); (first | have hk4 := call_facts hl3 hb1 (by simp) | skip); (first | have hk3 := call_facts hl2 hb1 (by simp) | skip); (first | have hk2 := call_facts hl1 hb1 (by simp) | skip); have hk1 := call_facts (fun b h => h) hb1 (Nat.le_refl _); (first | have hl4 := hk4.1 | skip); (first | have hl3 := hk3.1 | skip); (first | have hl2 := hk2.1 | skip); have hl1 := hk1.1))))
          all_goals try go_wp2_with (first | (go_at_call 62; ((with_reducible refine (HE1.out _).mono ?_); rintro e w' ⟨rfl, rfl⟩)) | (go_at_call 62; ((with_reducible refine (HE2.out _).mono ?_); rintro e w' ⟨rfl, rfl⟩)) | (go_at_call 47; (with_reducible refine (HS.out _).mono ?_; rintro e w1 ⟨rfl, hb1⟩; have hs1 := hb1.size; (try simp at hs1); (first | have hk4 := call_facts hl3 hb1 (by simp) | skip); (first | have hk3 := call_facts hl2 hb1 (by simp) | skip); (first | have hk2 := call_facts hl1 hb1 (by simp) | skip); have hk1 := call_facts (fun b h => h) hb1 (Nat.le_refl _); (first | have hl4 := hk4.1 | skip); (first | have hl3 := hk3.1 | skip); (first | have hl2 := hk2.1 | skip); have hl1 := hk1.1)))
          all_goals (first | exact bodyPost_ret (v := .tuple #[.agg #[.int .i64 0, .int .i64 0], .bool false]) (by simp [results, Try.results39, go_sem, *]) rfl ⟨(by first | (rw [HIN.out, HGU.out, HGV.out]; done) | (rw [HIN.out, HGU.out, HGV.out]; rfl) | (rw [HIN.out]; rfl)), (by repeat (first | exact Below.refl _ _ | assumption | refine Below.drew ?_ | refine below_drewN ?_ _ | refine Below.alloc ?_ (by first | omega | (simp; done) | (simp; omega)) _ | refine Below.setCell ?_ (by first | omega | (simp; done) | (simp; omega)) _ | refine Below.trans ?_ (Below.mono (by assumption) (by first | omega | (simp; done) | (simp; omega)))))⟩ | exact bodyPost_ret (v := .tuple #[.agg #[.int .i64 GU, .int .i64 GV], .bool K]) (by simp [results, Try.results39, go_sem, *]) rfl ⟨(by first | (rw [HIN.out, HGU.out, HGV.out]; done) | (rw [HIN.out, HGU.out, HGV.out]; rfl) | (rw [HIN.out]; rfl)), (by repeat (first | exact Below.refl _ _ | assumption | refine Below.drew ?_ | refine below_drewN ?_ _ | refine Below.alloc ?_ (by first | omega | (simp; done) | (simp; omega)) _ | refine Below.setCell ?_ (by first | omega | (simp; done) | (simp; omega)) _ | refine Below.trans ?_ (Below.mono (by assumption) (by first | omega | (simp; done) | (simp; omega)))))⟩)
      · have z3 : (Y.tmod (2 * C) == 0) = false := by simpa using hq2
        have z4 : (Y.tmod (2 * C) != 0) = true := by simpa using hq2
        have hin : mcIn x1 y1 x2 y2 x3 y3 = false := by rw [HI2.out, show mcQ (2 * C) X Y = false by unfold mcQ; rw [decide_eq_false hq2]; simp]; rfl
        have HIN := Lib.hid hin
        clear hin HI2
        all_goals
          first | have he1 := fun W => exactQuotient_any X (2 * C) HXY.out.1.1 HXY.out.1.2 kd2 W | have he1 := trivial
          first | have he2 := fun W => exactQuotient_any Y (2 * C) HXY.out.2.1 HXY.out.2.2 kd2 W | have he2 := trivial
          try rw [decide_eq_true hq1] at he1
          try rw [decide_eq_false hq1] at he1
          try rw [decide_eq_true hq2] at he2
          try rw [decide_eq_false hq2] at he2
          try simp only [guardI_facts.1, guardI_facts.2] at he1
          try simp only [guardI_facts.1, guardI_facts.2] at he2
          have HE1 := Lib.hid he1
          have HE2 := Lib.hid he2
          clear he1 he2
          go_enter Try.func39, Try.ntmps39
          go_wp2_with (first | (go_at_call 61; (refine (HAS.out _ HPA.out).mono ?_; rw [HON.out]; rintro e w1 ⟨rfl, hb1⟩; have hs1 := hb1.size; (try simp at hs1); have hk1 := call_facts (fun b h => h) hb1 (Nat.le_refl _); have hl1 := hk1.1)))
          go_quiet (fail)
          go_wp2_with fail
          go_quiet (fail)
          go_wp2_with fail
          try (go_region_held3 (fun w' => w'.cell? ⟨w.heap.size, 0, none⟩ = some (.int .i64 x1) ∧ w'.cell? ⟨w.heap.size, 1, none⟩ = some (.int .i64 y1) ∧ w'.cell? ⟨w.heap.size + 1, 0, none⟩ = some (.int .i64 x2) ∧ w'.cell? ⟨w.heap.size + 1, 1, none⟩ = some (.int .i64 y2) ∧ w'.cell? ⟨w.heap.size + 1 + 1, 0, none⟩ = some (.int .i64 x3) ∧ w'.cell? ⟨w.heap.size + 1 + 1, 1, none⟩ = some (.int .i64 y3)) (refine ⟨?_, ?_, ?_, ?_, ?_, ?_⟩ <;> first | (go_keep; done) | (simp [*, World.cell?_alloc_past, World.cell?_setCell_far]; done) | (simp [*, World.cell?_alloc_past, World.cell?_alloc_at, World.cell?_setCell_far]; done) | (go_simp; done))
            (first | (go_at_call 57; (with_reducible refine (HQB.out _).mono ?_; rintro e w1 ⟨rfl, hb1⟩; have hs1 := hb1.size; (try simp at hs1); (first | have hk4 := call_facts hl3 hb1 (by simp) | skip); (first | have hk3 := call_facts hl2 hb1 (by simp) | skip); (first | have hk2 := call_facts hl1 hb1 (by simp) | skip); have hk1 := call_facts (fun b h => h) hb1 (Nat.le_refl _); (first | have hl4 := hk4.1 | skip); (first | have hl3 := hk3.1 | skip); (first | have hl2 := hk2.1 | skip); have hl1 := hk1.1)) | (go_at_call 57; (with_reducible refine (HQC.out _).mono ?_; rintro e w1 ⟨rfl, hb1⟩; have hs1 := hb1.size; (try simp at hs1); (first | have hk4 := call_facts hl3 hb1 (by simp) | skip); (first | have hk3 := call_facts hl2 hb1 (by simp) | skip); (first | have hk2 := call_facts hl1 hb1 (by simp) | skip); have hk1 := call_facts (fun b h => h) hb1 (Nat.le_refl _); (first | have hl4 := hk4.1 | skip); (first | have hl3 := hk3.1 | skip); (first | have hl2 := hk2.1 | skip); have hl1 := hk1.1))))
          all_goals try go_wp2_with (first | (go_at_call 62; ((with_reducible refine (HE1.out _).mono ?_); rintro e w' ⟨rfl, rfl⟩)) | (go_at_call 62; ((with_reducible refine (HE2.out _).mono ?_); rintro e w' ⟨rfl, rfl⟩)) | (go_at_call 47; (with_reducible refine (HS.out _).mono ?_; rintro e w1 ⟨rfl, hb1⟩; have hs1 := hb1.size; (try simp at hs1); (first | have hk4 := call_facts hl3 hb1 (by simp) | skip); (first | have hk3 := call_facts hl2 hb1 (by simp) | skip); (first | have hk2 := call_facts hl1 hb1 (by simp) | skip); have hk1 := call_facts (fun b h => h) hb1 (Nat.le_refl _); (first | have hl4 := hk4.1 | skip); (first | have hl3 := hk3.1 | skip); (first | have hl2 := hk2.1 | skip); have hl1 := hk1.1)))
          all_goals (first | exact bodyPost_ret (v := .tuple #[.agg #[.int .i64 0, .int .i64 0], .bool false]) (by simp [results, Try.results39, go_sem, *]) rfl ⟨(by first | (rw [HIN.out, HGU.out, HGV.out]; done) | (rw [HIN.out, HGU.out, HGV.out]; rfl) | (rw [HIN.out]; rfl)), (by repeat (first | exact Below.refl _ _ | assumption | refine Below.drew ?_ | refine below_drewN ?_ _ | refine Below.alloc ?_ (by first | omega | (simp; done) | (simp; omega)) _ | refine Below.setCell ?_ (by first | omega | (simp; done) | (simp; omega)) _ | refine Below.trans ?_ (Below.mono (by assumption) (by first | omega | (simp; done) | (simp; omega)))))⟩ | exact bodyPost_ret (v := .tuple #[.agg #[.int .i64 GU, .int .i64 GV], .bool K]) (by simp [results, Try.results39, go_sem, *]) rfl ⟨(by first | (rw [HIN.out, HGU.out, HGV.out]; done) | (rw [HIN.out, HGU.out, HGV.out]; rfl) | (rw [HIN.out]; rfl)), (by repeat (first | exact Below.refl _ _ | assumption | refine Below.drew ?_ | refine below_drewN ?_ _ | refine Below.alloc ?_ (by first | omega | (simp; done) | (simp; omega)) _ | refine Below.setCell ?_ (by first | omega | (simp; done) | (simp; omega)) _ | refine Below.trans ?_ (Below.mono (by assumption) (by first | omega | (simp; done) | (simp; omega)))))⟩)
    · have z1 : (X.tmod (2 * C) == 0) = false := by simpa using hq1
      have z2 : (X.tmod (2 * C) != 0) = true := by simpa using hq1
      have hin : mcIn x1 y1 x2 y2 x3 y3 = false := by rw [HI2.out, show mcQ (2 * C) X Y = false by unfold mcQ; rw [decide_eq_false hq1]; simp]; rfl
      have HIN := Lib.hid hin
      clear hin HI2
      all_goals
        first | have he1 := fun W => exactQuotient_any X (2 * C) HXY.out.1.1 HXY.out.1.2 kd2 W | have he1 := trivial
        first | have he2 := fun W => exactQuotient_any Y (2 * C) HXY.out.2.1 HXY.out.2.2 kd2 W | have he2 := trivial
        try rw [decide_eq_true hq1] at he1
        try rw [decide_eq_false hq1] at he1
        try rw [decide_eq_true hq2] at he2
        try rw [decide_eq_false hq2] at he2
        try simp only [guardI_facts.1, guardI_facts.2] at he1
        try simp only [guardI_facts.1, guardI_facts.2] at he2
        have HE1 := Lib.hid he1
        have HE2 := Lib.hid he2
        clear he1 he2
        go_enter Try.func39, Try.ntmps39
        go_wp2_with (first | (go_at_call 61; (refine (HAS.out _ HPA.out).mono ?_; rw [HON.out]; rintro e w1 ⟨rfl, hb1⟩; have hs1 := hb1.size; (try simp at hs1); have hk1 := call_facts (fun b h => h) hb1 (Nat.le_refl _); have hl1 := hk1.1)))
        go_quiet (fail)
        go_wp2_with fail
        go_quiet (fail)
        go_wp2_with fail
        try (go_region_held3 (fun w' => w'.cell? ⟨w.heap.size, 0, none⟩ = some (.int .i64 x1) ∧ w'.cell? ⟨w.heap.size, 1, none⟩ = some (.int .i64 y1) ∧ w'.cell? ⟨w.heap.size + 1, 0, none⟩ = some (.int .i64 x2) ∧ w'.cell? ⟨w.heap.size + 1, 1, none⟩ = some (.int .i64 y2) ∧ w'.cell? ⟨w.heap.size + 1 + 1, 0, none⟩ = some (.int .i64 x3) ∧ w'.cell? ⟨w.heap.size + 1 + 1, 1, none⟩ = some (.int .i64 y3)) (refine ⟨?_, ?_, ?_, ?_, ?_, ?_⟩ <;> first | (go_keep; done) | (simp [*, World.cell?_alloc_past, World.cell?_setCell_far]; done) | (simp [*, World.cell?_alloc_past, World.cell?_alloc_at, World.cell?_setCell_far]; done) | (go_simp; done))
          (first | (go_at_call 57; (with_reducible refine (HQB.out _).mono ?_; rintro e w1 ⟨rfl, hb1⟩; have hs1 := hb1.size; (try simp at hs1); (first | have hk4 := call_facts hl3 hb1 (by simp) | skip); (first | have hk3 := call_facts hl2 hb1 (by simp) | skip); (first | have hk2 := call_facts hl1 hb1 (by simp) | skip); have hk1 := call_facts (fun b h => h) hb1 (Nat.le_refl _); (first | have hl4 := hk4.1 | skip); (first | have hl3 := hk3.1 | skip); (first | have hl2 := hk2.1 | skip); have hl1 := hk1.1)) | (go_at_call 57; (with_reducible refine (HQC.out _).mono ?_; rintro e w1 ⟨rfl, hb1⟩; have hs1 := hb1.size; (try simp at hs1); (first | have hk4 := call_facts hl3 hb1 (by simp) | skip); (first | have hk3 := call_facts hl2 hb1 (by simp) | skip); (first | have hk2 := call_facts hl1 hb1 (by simp) | skip); have hk1 := call_facts (fun b h => h) hb1 (Nat.le_refl _); (first | have hl4 := hk4.1 | skip); (first | have hl3 := hk3.1 | skip); (first | have hl2 := hk2.1 | skip); have hl1 := hk1.1))))
        all_goals try go_wp2_with (first | (go_at_call 62; ((with_reducible refine (HE1.out _).mono ?_); rintro e w' ⟨rfl, rfl⟩)) | (go_at_call 62; ((with_reducible refine (HE2.out _).mono ?_); rintro e w' ⟨rfl, rfl⟩)) | (go_at_call 47; (with_reducible refine (HS.out _).mono ?_; rintro e w1 ⟨rfl, hb1⟩; have hs1 := hb1.size; (try simp at hs1); (first | have hk4 := call_facts hl3 hb1 (by simp) | skip); (first | have hk3 := call_facts hl2 hb1 (by simp) | skip); (first | have hk2 := call_facts hl1 hb1 (by simp) | skip); have hk1 := call_facts (fun b h => h) hb1 (Nat.le_refl _); (first | have hl4 := hk4.1 | skip); (first | have hl3 := hk3.1 | skip); (first | have hl2 := hk2.1 | skip); have hl1 := hk1.1)))
        all_goals (first | exact bodyPost_ret (v := .tuple #[.agg #[.int .i64 0, .int .i64 0], .bool false]) (by simp [results, Try.results39, go_sem, *]) rfl ⟨(by first | (rw [HIN.out, HGU.out, HGV.out]; done) | (rw [HIN.out, HGU.out, HGV.out]; rfl) | (rw [HIN.out]; rfl)), (by repeat (first | exact Below.refl _ _ | assumption | refine Below.drew ?_ | refine below_drewN ?_ _ | refine Below.alloc ?_ (by first | omega | (simp; done) | (simp; omega)) _ | refine Below.setCell ?_ (by first | omega | (simp; done) | (simp; omega)) _ | refine Below.trans ?_ (Below.mono (by assumption) (by first | omega | (simp; done) | (simp; omega)))))⟩ | exact bodyPost_ret (v := .tuple #[.agg #[.int .i64 GU, .int .i64 GV], .bool K]) (by simp [results, Try.results39, go_sem, *]) rfl ⟨(by first | (rw [HIN.out, HGU.out, HGV.out]; done) | (rw [HIN.out, HGU.out, HGV.out]; rfl) | (rw [HIN.out]; rfl)), (by repeat (first | exact Below.refl _ _ | assumption | refine Below.drew ?_ | refine below_drewN ?_ _ | refine Below.alloc ?_ (by first | omega | (simp; done) | (simp; omega)) _ | refine Below.setCell ?_ (by first | omega | (simp; done) | (simp; omega)) _ | refine Below.trans ?_ (Below.mono (by assumption) (by first | omega | (simp; done) | (simp; omega)))))⟩)

theorem mcK_no (x1 y1 x2 y2 x3 y3 : Int) (hv : mcOn x1 y1 x2 y2 x3 y3 = false) : mcK x1 y1 x2 y2 x3 y3 = false := by unfold mcK; rw [hv]; rfl
theorem mcK_yes (x1 y1 x2 y2 x3 y3 : Int) (hv : mcOn x1 y1 x2 y2 x3 y3 = true) : mcK x1 y1 x2 y2 x3 y3 = mcIn x1 y1 x2 y2 x3 y3 := by unfold mcK; rw [hv]; rfl

theorem specMC_any (x1 y1 x2 y2 x3 y3 : Int) (w : World) :
    Calls Try.prog 38 #[.agg #[.int .i64 x1, .int .i64 y1], .agg #[.int .i64 x2, .int .i64 y2], .agg #[.int .i64 x3, .int .i64 y3]] w fun e w' => e = .returned (.tuple #[.agg #[.int .i64 (guardI (mcK x1 y1 x2 y2 x3 y3) (mcU x1 y1 x2 y2 x3 y3)), .int .i64 (guardI (mcK x1 y1 x2 y2 x3 y3) (mcV x1 y1 x2 y2 x3 y3))], .bool (mcK x1 y1 x2 y2 x3 y3)]) ∧ Below w.heap.size w w' := by
  cases hv : mcOn x1 y1 x2 y2 x3 y3
  · rw [mcK_no _ _ _ _ _ _ hv]
    exact specMC_no x1 y1 x2 y2 x3 y3 hv w
  · rw [mcK_yes _ _ _ _ _ _ hv]
    exact specMC_in x1 y1 x2 y2 x3 y3 hv w

theorem mc_any (x1 y1 x2 y2 x3 y3 : Int) (w : World) :
    Calls Try.prog 39 #[.agg #[.int .i64 x1, .int .i64 y1], .agg #[.int .i64 x2, .int .i64 y2], .agg #[.int .i64 x3, .int .i64 y3]] w fun e w' => e = .returned (.tuple #[.agg #[.int .i64 (guardI (mcK x1 y1 x2 y2 x3 y3) (mcU x1 y1 x2 y2 x3 y3)), .int .i64 (guardI (mcK x1 y1 x2 y2 x3 y3) (mcV x1 y1 x2 y2 x3 y3))], .bool (mcK x1 y1 x2 y2 x3 y3)]) ∧ Below w.heap.size w w' := by
  cases hv : mcOn x1 y1 x2 y2 x3 y3
  · rw [mcK_no _ _ _ _ _ _ hv]
    exact mc_no x1 y1 x2 y2 x3 y3 hv w
  · rw [mcK_yes _ _ _ _ _ _ hv]
    exact mc_in x1 y1 x2 y2 x3 y3 hv w

end Go.Proofs.Ytjdpbjpeohdoiaa
