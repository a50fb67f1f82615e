/- ApartAt, both sides. Conditions: those written in each theorem. -/
import Derived.Test.YtjojjmmdgldcbaaApLi2
import Derived.Test.YtjojjmmdgldcbaaMvAt
import Derived.Deep.RegionHeld3
import Derived.Deep.DrawnRows
import Derived.IntWalk
import Derived.StillTailTactics
namespace Go.Proofs.Ytjojjmmdgldcbaa
open Go.RowKit


attribute [local go_sem ↓] Go.wp_at_zero Go.wp_at_succ

/-- The square after k counts, times the square of the counts. -/
def sqAt (x1 y1 x2 y2 n x3 y3 x4 y4 m k : Int) : Int := (px x1 x2 n k - px x3 x4 m k) * (px x1 x2 n k - px x3 x4 m k) + (px y1 y2 n k - px y3 y4 m k) * (px y1 y2 n k - px y3 y4 m k)
def atn (x1 y1 x2 y2 n x3 y3 x4 y4 m k : Int) : Int := lowN (sqAt x1 y1 x2 y2 n x3 y3 x4 y4 m k).toNat (n * n).toNat
def atd (x1 y1 x2 y2 n x3 y3 x4 y4 m k : Int) : Int := lowD (sqAt x1 y1 x2 y2 n x3 y3 x4 y4 m k).toNat (n * n).toNat
theorem at_facts {x1 y1 x2 y2 n x3 y3 x4 y4 m k : Int} (h : gtog x1 y1 x2 y2 n x3 y3 x4 y4 m = true) (k0 : 0 ≤ k) (k1 : k ≤ n) : ∃ (X Y U V d e a b : Int) (A B : Nat), X = px x1 x2 n k ∧ Y = px y1 y2 n k ∧ U = px x3 x4 m k ∧ V = px y3 y4 m k ∧ IntKind.i64.wrap (X - U) = d ∧ IntKind.i64.wrap (Y - V) = e ∧ IntKind.i64.wrap (d * d) = a ∧ IntKind.i64.wrap (e * e) = b ∧ IntKind.i64.wrap (a + b) = (A : Int) ∧ IntKind.i64.wrap (n * n) = (B : Int) ∧
    (A ≤ 1000000000000000 ∧ B ≤ 4096 ∧ 0 < B) ∧ atn x1 y1 x2 y2 n x3 y3 x4 y4 m k = lowN A B ∧ atd x1 y1 x2 y2 n x3 y3 x4 y4 m k = lowD A B ∧ sqAt x1 y1 x2 y2 n x3 y3 x4 y4 m k = (A : Int) ∧ n * n = (B : Int) := by
  obtain ⟨h1, h2, h3⟩ := gtog_iff.1 h
  obtain ⟨⟨n0, n1⟩, a1, a2⟩ := mv_facts h1 k0 k1
  obtain ⟨_, b1, b2⟩ := mv_facts h2 k0 (by omega)
  have c := sqAt x1 y1 x2 y2 n x3 y3 x4 y4 m k
  obtain ⟨X, hX⟩ : ∃ X, X = px x1 x2 n k := ⟨_, rfl⟩
  obtain ⟨Y, hY⟩ : ∃ X, X = px y1 y2 n k := ⟨_, rfl⟩
  obtain ⟨U, hU⟩ : ∃ X, X = px x3 x4 m k := ⟨_, rfl⟩
  obtain ⟨V, hV⟩ : ∃ X, X = px y3 y4 m k := ⟨_, rfl⟩
  have hs : sqAt x1 y1 x2 y2 n x3 y3 x4 y4 m k = (X - U) * (X - U) + (Y - V) * (Y - V) := by rw [hX, hY, hU, hV]; rfl
  rw [← hX] at a1
  rw [← hY] at a2
  rw [← hU] at b1
  rw [← hV] at b2
  have d1 := mul_bd (a := X - U) (b := X - U) (m := 81920) (n := 81920) (by omega) (by omega) (by omega) (by omega)
  have d2 := mul_bd (a := Y - V) (b := Y - V) (m := 81920) (n := 81920) (by omega) (by omega) (by omega) (by omega)
  have d3 := mul_bd (a := n) (b := n) (m := 64) (n := 64) (by omega) (by omega) (by omega) (by omega)
  have d4 := sq_nonneg (X - U)
  have d5 := sq_nonneg (Y - V)
  have d6 : 0 < n * n := Int.mul_pos (by omega) (by omega)
  refine ⟨X, Y, U, V, X - U, Y - V, (X - U) * (X - U), (Y - V) * (Y - V), (sqAt x1 y1 x2 y2 n x3 y3 x4 y4 m k).toNat, (n * n).toNat, hX, hY, hU, hV, IntWalk.i64_in _ (by omega), IntWalk.i64_in _ (by omega), IntWalk.i64_in _ (by omega), IntWalk.i64_in _ (by omega), ?_, ?_, ⟨by omega, by omega, by omega⟩, rfl, rfl, by omega, by omega⟩
  · rw [IntWalk.i64_in _ (by omega)]; omega
  · rw [IntWalk.i64_in _ (by omega)]; omega

set_option maxHeartbeats 1000000 in
theorem specApartAt_no (x1 y1 x2 y2 n x3 y3 x4 y4 m k : Int) (h : gtog x1 y1 x2 y2 n x3 y3 x4 y4 m = false) (w : World) :
    Calls Try.prog 14 #[.agg #[.int .i64 x1, .int .i64 y1, .int .i64 x2, .int .i64 y2, .int .i64 n], .agg #[.int .i64 x3, .int .i64 y3, .int .i64 x4, .int .i64 y4, .int .i64 m], .int .i64 k] w fun e w' => e = .returned (.tuple #[.int .i64 (guardI (gtog x1 y1 x2 y2 n x3 y3 x4 y4 m && inB 0 k n) (atn x1 y1 x2 y2 n x3 y3 x4 y4 m k)), .int .i64 (guardI (gtog x1 y1 x2 y2 n x3 y3 x4 y4 m && inB 0 k n) (atd x1 y1 x2 y2 n x3 y3 x4 y4 m k)), .bool (gtog x1 y1 x2 y2 n x3 y3 x4 y4 m && inB 0 k n)]) ∧ Below w.heap.size w w' := by
  obtain ⟨q1, q2, q3, q4, q5, q6, q7⟩ := nadd
  have HG := Lib.hid (fun W => apGood_any x1 y1 x2 y2 n x3 y3 x4 y4 m W)
  rw [h] at HG
  rw [h]
  clear h
  all_goals
    go_enter Try.func14, Try.ntmps14
    go_wp2_with (first | (go_at_call 53; ((with_reducible refine (HG.out _).mono ?_); rintro e w1 ⟨rfl, hb1⟩; have hs1 := hb1.size; (try simp at hs1); (first | have hk4 := call_facts hl3 hb1 (by first | omega | (simp; done) | (simp; omega)) | skip); (first | have hk3 := call_facts hl2 hb1 (by first | omega | (simp; done) | (simp; omega)) | skip); (first | have hk2 := call_facts hl1 hb1 (by first | omega | (simp; done) | (simp; omega)) | skip); have hk1 := call_facts (fun b h => h) hb1 (Nat.le_refl _); (first | have hl4 := hk4.1 | skip); (first | have hl3 := hk3.1 | skip); (first | have hl2 := hk2.1 | skip); have hl1 := hk1.1)))
    first | exact bodyPost_ret (v := .tuple #[.int .i64 0, .int .i64 0, .bool false]) (by simp [results, Try.results14, go_sem, *]) rfl ⟨rfl, (by repeat (first | exact Below.refl _ _ | assumption | refine Below.drew ?_ | refine below_drewN ?_ _ | refine Below.alloc ?_ (by first | omega | (simp; done) | (simp; omega)) _ | refine Below.setCell ?_ (by first | omega | (simp; done) | (simp; omega)) _ | refine Below.trans ?_ (Below.mono (by assumption) (by first | omega | (simp; done) | (simp; omega)))))⟩

set_option maxHeartbeats 1000000 in
theorem specApartAt_far (x1 y1 x2 y2 n x3 y3 x4 y4 m k : Int) (h : gtog x1 y1 x2 y2 n x3 y3 x4 y4 m = true) (h2 : inB 0 k n = false) (w : World) :
    Calls Try.prog 14 #[.agg #[.int .i64 x1, .int .i64 y1, .int .i64 x2, .int .i64 y2, .int .i64 n], .agg #[.int .i64 x3, .int .i64 y3, .int .i64 x4, .int .i64 y4, .int .i64 m], .int .i64 k] w fun e w' => e = .returned (.tuple #[.int .i64 (guardI (gtog x1 y1 x2 y2 n x3 y3 x4 y4 m && inB 0 k n) (atn x1 y1 x2 y2 n x3 y3 x4 y4 m k)), .int .i64 (guardI (gtog x1 y1 x2 y2 n x3 y3 x4 y4 m && inB 0 k n) (atd x1 y1 x2 y2 n x3 y3 x4 y4 m k)), .bool (gtog x1 y1 x2 y2 n x3 y3 x4 y4 m && inB 0 k n)]) ∧ Below w.heap.size w w' := by
  obtain ⟨q1, q2, q3, q4, q5, q6, q7⟩ := nadd
  have HG := Lib.hid (fun W => apGood_any x1 y1 x2 y2 n x3 y3 x4 y4 m W)
  rw [h] at HG
  rw [h, h2]
  have HD := Lib.hid (fun W => l1In_any k 0 n W)
  rw [h2] at HD
  clear h h2
  all_goals
    go_enter Try.func14, Try.ntmps14
    go_wp2_with (first | (go_at_call 53; ((with_reducible refine (HG.out _).mono ?_); rintro e w1 ⟨rfl, hb1⟩; have hs1 := hb1.size; (try simp at hs1); (first | have hk4 := call_facts hl3 hb1 (by first | omega | (simp; done) | (simp; omega)) | skip); (first | have hk3 := call_facts hl2 hb1 (by first | omega | (simp; done) | (simp; omega)) | skip); (first | have hk2 := call_facts hl1 hb1 (by first | omega | (simp; done) | (simp; omega)) | skip); have hk1 := call_facts (fun b h => h) hb1 (Nat.le_refl _); (first | have hl4 := hk4.1 | skip); (first | have hl3 := hk3.1 | skip); (first | have hl2 := hk2.1 | skip); have hl1 := hk1.1)) | (go_at_call 54; ((with_reducible refine (HD.out _).mono ?_); rintro e w' ⟨rfl, rfl⟩)))
    first | exact bodyPost_ret (v := .tuple #[.int .i64 0, .int .i64 0, .bool false]) (by simp [results, Try.results14, go_sem, *]) rfl ⟨rfl, (by repeat (first | exact Below.refl _ _ | assumption | refine Below.drew ?_ | refine below_drewN ?_ _ | refine Below.alloc ?_ (by first | omega | (simp; done) | (simp; omega)) _ | refine Below.setCell ?_ (by first | omega | (simp; done) | (simp; omega)) _ | refine Below.trans ?_ (Below.mono (by assumption) (by first | omega | (simp; done) | (simp; omega)))))⟩

set_option maxHeartbeats 2000000 in
theorem specApartAt_yes (x1 y1 x2 y2 n x3 y3 x4 y4 m k : Int) (h : gtog x1 y1 x2 y2 n x3 y3 x4 y4 m = true) (h2 : inB 0 k n = true) (w : World) :
    Calls Try.prog 14 #[.agg #[.int .i64 x1, .int .i64 y1, .int .i64 x2, .int .i64 y2, .int .i64 n], .agg #[.int .i64 x3, .int .i64 y3, .int .i64 x4, .int .i64 y4, .int .i64 m], .int .i64 k] w fun e w' => e = .returned (.tuple #[.int .i64 (guardI (gtog x1 y1 x2 y2 n x3 y3 x4 y4 m && inB 0 k n) (atn x1 y1 x2 y2 n x3 y3 x4 y4 m k)), .int .i64 (guardI (gtog x1 y1 x2 y2 n x3 y3 x4 y4 m && inB 0 k n) (atd x1 y1 x2 y2 n x3 y3 x4 y4 m k)), .bool (gtog x1 y1 x2 y2 n x3 y3 x4 y4 m && inB 0 k n)]) ∧ Below w.heap.size w w' := by
  obtain ⟨q1, q2, q3, q4, q5, q6, q7⟩ := nadd
  have HG := Lib.hid (fun W => apGood_any x1 y1 x2 y2 n x3 y3 x4 y4 m W)
  rw [h] at HG
  have HD := Lib.hid (fun W => l1In_any k 0 n W)
  rw [h2] at HD
  obtain ⟨k0, k1⟩ := inB_iff.1 h2
  obtain ⟨i1, i2, i3⟩ := gtog_iff.1 h
  have HA := Lib.hid (fun W => mvAt_any x1 y1 x2 y2 n k i1 k0 k1 W)
  have HB := Lib.hid (fun W => mvAt_any x3 y3 x4 y4 m k i2 k0 (by omega) W)
  obtain ⟨X, Y, U, V, d, e', a, b, A, B, hX, hY, hU, hV, u1, u2, u3, u4, u5, u6, ⟨hA, hB, hB0⟩, f1, f2, f3, f4⟩ := at_facts h k0 k1
  have HP := Lib.hid (fun W => mvPartW_any A B hA (by omega) hB0 W)
  rw [← hX, ← hY] at HA
  rw [← hU, ← hV] at HB
  rw [h, h2, f1, f2]
  obtain ⟨P, hP⟩ : ∃ P, P = lowN A B := ⟨_, rfl⟩
  obtain ⟨Q, hQ⟩ : ∃ Q, Q = lowD A B := ⟨_, rfl⟩
  rw [← hP, ← hQ] at HP
  rw [← hP, ← hQ]
  clear h h2 k0 k1 i1 i2 i3 hX hY hU hV hA hB hB0 f1 f2 f3 f4 hP hQ
  all_goals
    go_enter Try.func14, Try.ntmps14
    go_wp2_with (first | (go_at_call 53; ((with_reducible refine (HG.out _).mono ?_); rintro e w1 ⟨rfl, hb1⟩; have hs1 := hb1.size; (try simp at hs1); (first | have hk4 := call_facts hl3 hb1 (by first | omega | (simp; done) | (simp; omega)) | skip); (first | have hk3 := call_facts hl2 hb1 (by first | omega | (simp; done) | (simp; omega)) | skip); (first | have hk2 := call_facts hl1 hb1 (by first | omega | (simp; done) | (simp; omega)) | skip); have hk1 := call_facts (fun b h => h) hb1 (Nat.le_refl _); (first | have hl4 := hk4.1 | skip); (first | have hl3 := hk3.1 | skip); (first | have hl2 := hk2.1 | skip); have hl1 := hk1.1)) | (go_at_call 54; ((with_reducible refine (HD.out _).mono ?_); rintro e w' ⟨rfl, rfl⟩)) | (go_at_call 55; ((with_reducible refine (HA.out _).mono ?_); rintro e w1 ⟨rfl, hb1⟩; have hs1 := hb1.size; (try simp at hs1); (first | have hk4 := call_facts hl3 hb1 (by first | omega | (simp; done) | (simp; omega)) | skip); (first | have hk3 := call_facts hl2 hb1 (by first | omega | (simp; done) | (simp; omega)) | skip); (first | have hk2 := call_facts hl1 hb1 (by first | omega | (simp; done) | (simp; omega)) | skip); have hk1 := call_facts (fun b h => h) hb1 (Nat.le_refl _); (first | have hl4 := hk4.1 | skip); (first | have hl3 := hk3.1 | skip); (first | have hl2 := hk2.1 | skip); have hl1 := hk1.1)) | (go_at_call 55; ((with_reducible refine (HB.out _).mono ?_); rintro e w1 ⟨rfl, hb1⟩; have hs1 := hb1.size; (try simp at hs1); (first | have hk4 := call_facts hl3 hb1 (by first | omega | (simp; done) | (simp; omega)) | skip); (first | have hk3 := call_facts hl2 hb1 (by first | omega | (simp; done) | (simp; omega)) | skip); (first | have hk2 := call_facts hl1 hb1 (by first | omega | (simp; done) | (simp; omega)) | skip); have hk1 := call_facts (fun b h => h) hb1 (Nat.le_refl _); (first | have hl4 := hk4.1 | skip); (first | have hl3 := hk3.1 | skip); (first | have hl2 := hk2.1 | skip); have hl1 := hk1.1)) | (go_at_call 56; ((with_reducible refine (HP.out _).mono ?_); rintro e w1 ⟨rfl, hb1⟩; have hs1 := hb1.size; (try simp at hs1); (first | have hk4 := call_facts hl3 hb1 (by first | omega | (simp; done) | (simp; omega)) | skip); (first | have hk3 := call_facts hl2 hb1 (by first | omega | (simp; done) | (simp; omega)) | skip); (first | have hk2 := call_facts hl1 hb1 (by first | omega | (simp; done) | (simp; omega)) | skip); have hk1 := call_facts (fun b h => h) hb1 (Nat.le_refl _); (first | have hl4 := hk4.1 | skip); (first | have hl3 := hk3.1 | skip); (first | have hl2 := hk2.1 | skip); have hl1 := hk1.1)))
    first | exact bodyPost_ret (v := .tuple #[.int .i64 P, .int .i64 Q, .bool true]) (by simp [results, Try.results14, go_sem, *]) rfl ⟨rfl, (by repeat (first | exact Below.refl _ _ | assumption | refine Below.drew ?_ | refine below_drewN ?_ _ | refine Below.alloc ?_ (by first | omega | (simp; done) | (simp; omega)) _ | refine Below.setCell ?_ (by first | omega | (simp; done) | (simp; omega)) _ | refine Below.trans ?_ (Below.mono (by assumption) (by first | omega | (simp; done) | (simp; omega)))))⟩

theorem specApartAt_any (x1 y1 x2 y2 n x3 y3 x4 y4 m k : Int) (w : World) :
    Calls Try.prog 14 #[.agg #[.int .i64 x1, .int .i64 y1, .int .i64 x2, .int .i64 y2, .int .i64 n], .agg #[.int .i64 x3, .int .i64 y3, .int .i64 x4, .int .i64 y4, .int .i64 m], .int .i64 k] w fun e w' => e = .returned (.tuple #[.int .i64 (guardI (gtog x1 y1 x2 y2 n x3 y3 x4 y4 m && inB 0 k n) (atn x1 y1 x2 y2 n x3 y3 x4 y4 m k)), .int .i64 (guardI (gtog x1 y1 x2 y2 n x3 y3 x4 y4 m && inB 0 k n) (atd x1 y1 x2 y2 n x3 y3 x4 y4 m k)), .bool (gtog x1 y1 x2 y2 n x3 y3 x4 y4 m && inB 0 k n)]) ∧ Below w.heap.size w w' := by
  cases h : gtog x1 y1 x2 y2 n x3 y3 x4 y4 m
  · rw [← h]; exact specApartAt_no x1 y1 x2 y2 n x3 y3 x4 y4 m k h w
  · rw [← h]
    cases h2 : inB 0 k n
    · rw [← h2]; exact specApartAt_far x1 y1 x2 y2 n x3 y3 x4 y4 m k h h2 w
    · rw [← h2]; exact specApartAt_yes x1 y1 x2 y2 n x3 y3 x4 y4 m k h h2 w

theorem sqAt_nat {x1 y1 x2 y2 n x3 y3 x4 y4 m k : Int} (h : gtog x1 y1 x2 y2 n x3 y3 x4 y4 m = true) (k0 : 0 ≤ k) (k1 : k ≤ n) : ∃ A B : Nat, sqAt x1 y1 x2 y2 n x3 y3 x4 y4 m k = (A : Int) ∧ n * n = (B : Int) ∧ A ≤ 1000000000000000 ∧ B ≤ 4096 ∧ 0 < B ∧ atn x1 y1 x2 y2 n x3 y3 x4 y4 m k = lowN A B ∧ atd x1 y1 x2 y2 n x3 y3 x4 y4 m k = lowD A B := by
  obtain ⟨X, Y, U, V, d, e', a, b, A, B, hX, hY, hU, hV, u1, u2, u3, u4, u5, u6, ⟨hA, hB, hB0⟩, f1, f2, f3, f4⟩ := at_facts h k0 k1
  exact ⟨A, B, f3, f4, hA, hB, hB0, f1, f2⟩

set_option maxHeartbeats 2000000 in
theorem squareAt_any (x1 y1 x2 y2 n x3 y3 x4 y4 m k : Int) (h : gtog x1 y1 x2 y2 n x3 y3 x4 y4 m = true) (k0 : 0 ≤ k) (k1 : k ≤ n) (w : World) :
    Calls Try.prog 60 #[.agg #[.int .i64 x1, .int .i64 y1, .int .i64 x2, .int .i64 y2, .int .i64 n], .agg #[.int .i64 x3, .int .i64 y3, .int .i64 x4, .int .i64 y4, .int .i64 m], .int .i64 k] w fun e w' => e = .returned (.agg #[.int .i64 (sqAt x1 y1 x2 y2 n x3 y3 x4 y4 m k), .int .i64 (n * n)]) ∧ Below w.heap.size w w' := by
  obtain ⟨q1, q2, q3, q4, q5, q6, q7⟩ := nadd
  obtain ⟨i1, i2, i3⟩ := gtog_iff.1 h
  have HA := Lib.hid (fun W => placeAt_any x1 y1 x2 y2 n k W)
  have HB := Lib.hid (fun W => placeAt_any x3 y3 x4 y4 m k W)
  have p1 : plOk x1 y1 x2 y2 n k = true := plOk_iff.2 ⟨i1, k0, k1⟩
  have p2 : plOk x3 y3 x4 y4 m k = true := plOk_iff.2 ⟨i2, k0, by omega⟩
  rw [p1] at HA
  rw [p2] at HB
  simp only [guardI_facts.1] at HA HB
  obtain ⟨X, Y, U, V, d, e', a, b, A, B, hX, hY, hU, hV, u1, u2, u3, u4, u5, u6, ⟨hA, hB, hB0⟩, f1, f2, f3, f4⟩ := at_facts h k0 k1
  rw [← hX, ← hY] at HA
  rw [← hU, ← hV] at HB
  rw [f3, f4]
  clear h k0 k1 i1 i2 i3 hX hY hU hV hA hB hB0 f1 f2 f3 f4 p1 p2
  all_goals
    go_enter Try.func60, Try.ntmps60
    go_wp2_with (first | (go_at_call 91; ((with_reducible refine (HA.out _).mono ?_); rintro e w1 ⟨rfl, hb1⟩; have hs1 := hb1.size; (try simp at hs1); (first | have hk4 := call_facts hl3 hb1 (by first | omega | (simp; done) | (simp; omega)) | skip); (first | have hk3 := call_facts hl2 hb1 (by first | omega | (simp; done) | (simp; omega)) | skip); (first | have hk2 := call_facts hl1 hb1 (by first | omega | (simp; done) | (simp; omega)) | skip); have hk1 := call_facts (fun b h => h) hb1 (Nat.le_refl _); (first | have hl4 := hk4.1 | skip); (first | have hl3 := hk3.1 | skip); (first | have hl2 := hk2.1 | skip); have hl1 := hk1.1)) | (go_at_call 91; ((with_reducible refine (HB.out _).mono ?_); rintro e w1 ⟨rfl, hb1⟩; have hs1 := hb1.size; (try simp at hs1); (first | have hk4 := call_facts hl3 hb1 (by first | omega | (simp; done) | (simp; omega)) | skip); (first | have hk3 := call_facts hl2 hb1 (by first | omega | (simp; done) | (simp; omega)) | skip); (first | have hk2 := call_facts hl1 hb1 (by first | omega | (simp; done) | (simp; omega)) | skip); have hk1 := call_facts (fun b h => h) hb1 (Nat.le_refl _); (first | have hl4 := hk4.1 | skip); (first | have hl3 := hk3.1 | skip); (first | have hl2 := hk2.1 | skip); have hl1 := hk1.1)))
    first | exact bodyPost_ret (v := .agg #[.int .i64 (A : Int), .int .i64 (B : Int)]) (by simp [results, Try.results60, go_sem, *]) rfl ⟨rfl, (by repeat (first | with_reducible exact Below.refl _ _ | with_reducible assumption | with_reducible refine Below.drew ?_ | with_reducible refine below_drewN ?_ _ | with_reducible refine Below.alloc ?_ (by first | omega | (simp; done) | (simp; omega)) _ | with_reducible refine Below.setCell ?_ (by first | omega | (simp; done) | (simp; omega)) _ | with_reducible refine Below.trans ?_ (Below.mono (by assumption) (by first | omega | (simp; done) | (simp; omega)))))⟩

set_option maxHeartbeats 1000000 in
theorem apartAt_no (x1 y1 x2 y2 n x3 y3 x4 y4 m k : Int) (h : gtog x1 y1 x2 y2 n x3 y3 x4 y4 m = false) (w : World) :
    Calls Try.prog 16 #[.agg #[.int .i64 x1, .int .i64 y1, .int .i64 x2, .int .i64 y2, .int .i64 n], .agg #[.int .i64 x3, .int .i64 y3, .int .i64 x4, .int .i64 y4, .int .i64 m], .int .i64 k] w fun e w' => e = .returned (.tuple #[.int .i64 (guardI (gtog x1 y1 x2 y2 n x3 y3 x4 y4 m && inB 0 k n) (atn x1 y1 x2 y2 n x3 y3 x4 y4 m k)), .int .i64 (guardI (gtog x1 y1 x2 y2 n x3 y3 x4 y4 m && inB 0 k n) (atd x1 y1 x2 y2 n x3 y3 x4 y4 m k)), .bool (gtog x1 y1 x2 y2 n x3 y3 x4 y4 m && inB 0 k n)]) ∧ Below w.heap.size w w' := by
  obtain ⟨q1, q2, q3, q4, q5, q6, q7⟩ := nadd
  have HG := Lib.hid (fun W => goTogether_any x1 y1 x2 y2 n x3 y3 x4 y4 m W)
  rw [h] at HG
  rw [h]
  clear h
  all_goals
    go_enter Try.func16, Try.ntmps16
    go_wp2_with (first | (go_at_call 58; ((with_reducible refine (HG.out _).mono ?_); rintro e w1 ⟨rfl, hb1⟩; have hs1 := hb1.size; (try simp at hs1); (first | have hk4 := call_facts hl3 hb1 (by first | omega | (simp; done) | (simp; omega)) | skip); (first | have hk3 := call_facts hl2 hb1 (by first | omega | (simp; done) | (simp; omega)) | skip); (first | have hk2 := call_facts hl1 hb1 (by first | omega | (simp; done) | (simp; omega)) | skip); have hk1 := call_facts (fun b h => h) hb1 (Nat.le_refl _); (first | have hl4 := hk4.1 | skip); (first | have hl3 := hk3.1 | skip); (first | have hl2 := hk2.1 | skip); have hl1 := hk1.1)))
    first | exact bodyPost_ret (v := .tuple #[.int .i64 0, .int .i64 0, .bool false]) (by simp [results, Try.results16, go_sem, *]) rfl ⟨rfl, (by repeat (first | exact Below.refl _ _ | assumption | refine Below.drew ?_ | refine below_drewN ?_ _ | refine Below.alloc ?_ (by first | omega | (simp; done) | (simp; omega)) _ | refine Below.setCell ?_ (by first | omega | (simp; done) | (simp; omega)) _ | refine Below.trans ?_ (Below.mono (by assumption) (by first | omega | (simp; done) | (simp; omega)))))⟩

set_option maxHeartbeats 1000000 in
theorem apartAt_far (x1 y1 x2 y2 n x3 y3 x4 y4 m k : Int) (h : gtog x1 y1 x2 y2 n x3 y3 x4 y4 m = true) (h2 : inB 0 k n = false) (w : World) :
    Calls Try.prog 16 #[.agg #[.int .i64 x1, .int .i64 y1, .int .i64 x2, .int .i64 y2, .int .i64 n], .agg #[.int .i64 x3, .int .i64 y3, .int .i64 x4, .int .i64 y4, .int .i64 m], .int .i64 k] w fun e w' => e = .returned (.tuple #[.int .i64 (guardI (gtog x1 y1 x2 y2 n x3 y3 x4 y4 m && inB 0 k n) (atn x1 y1 x2 y2 n x3 y3 x4 y4 m k)), .int .i64 (guardI (gtog x1 y1 x2 y2 n x3 y3 x4 y4 m && inB 0 k n) (atd x1 y1 x2 y2 n x3 y3 x4 y4 m k)), .bool (gtog x1 y1 x2 y2 n x3 y3 x4 y4 m && inB 0 k n)]) ∧ Below w.heap.size w w' := by
  obtain ⟨q1, q2, q3, q4, q5, q6, q7⟩ := nadd
  have HG := Lib.hid (fun W => goTogether_any x1 y1 x2 y2 n x3 y3 x4 y4 m W)
  rw [h] at HG
  rw [h, h2]
  have HD := Lib.hid (fun W => inRange_any k 0 n W)
  rw [h2] at HD
  clear h h2
  all_goals
    go_enter Try.func16, Try.ntmps16
    go_wp2_with (first | (go_at_call 58; ((with_reducible refine (HG.out _).mono ?_); rintro e w1 ⟨rfl, hb1⟩; have hs1 := hb1.size; (try simp at hs1); (first | have hk4 := call_facts hl3 hb1 (by first | omega | (simp; done) | (simp; omega)) | skip); (first | have hk3 := call_facts hl2 hb1 (by first | omega | (simp; done) | (simp; omega)) | skip); (first | have hk2 := call_facts hl1 hb1 (by first | omega | (simp; done) | (simp; omega)) | skip); have hk1 := call_facts (fun b h => h) hb1 (Nat.le_refl _); (first | have hl4 := hk4.1 | skip); (first | have hl3 := hk3.1 | skip); (first | have hl2 := hk2.1 | skip); have hl1 := hk1.1)) | (go_at_call 59; ((with_reducible refine (HD.out _).mono ?_); rintro e w' ⟨rfl, rfl⟩)))
    first | exact bodyPost_ret (v := .tuple #[.int .i64 0, .int .i64 0, .bool false]) (by simp [results, Try.results16, go_sem, *]) rfl ⟨rfl, (by repeat (first | exact Below.refl _ _ | assumption | refine Below.drew ?_ | refine below_drewN ?_ _ | refine Below.alloc ?_ (by first | omega | (simp; done) | (simp; omega)) _ | refine Below.setCell ?_ (by first | omega | (simp; done) | (simp; omega)) _ | refine Below.trans ?_ (Below.mono (by assumption) (by first | omega | (simp; done) | (simp; omega)))))⟩

set_option maxHeartbeats 2000000 in
theorem apartAt_yes (x1 y1 x2 y2 n x3 y3 x4 y4 m k : Int) (h : gtog x1 y1 x2 y2 n x3 y3 x4 y4 m = true) (h2 : inB 0 k n = true) (w : World) :
    Calls Try.prog 16 #[.agg #[.int .i64 x1, .int .i64 y1, .int .i64 x2, .int .i64 y2, .int .i64 n], .agg #[.int .i64 x3, .int .i64 y3, .int .i64 x4, .int .i64 y4, .int .i64 m], .int .i64 k] w fun e w' => e = .returned (.tuple #[.int .i64 (guardI (gtog x1 y1 x2 y2 n x3 y3 x4 y4 m && inB 0 k n) (atn x1 y1 x2 y2 n x3 y3 x4 y4 m k)), .int .i64 (guardI (gtog x1 y1 x2 y2 n x3 y3 x4 y4 m && inB 0 k n) (atd x1 y1 x2 y2 n x3 y3 x4 y4 m k)), .bool (gtog x1 y1 x2 y2 n x3 y3 x4 y4 m && inB 0 k n)]) ∧ Below w.heap.size w w' := by
  obtain ⟨q1, q2, q3, q4, q5, q6, q7⟩ := nadd
  have HG := Lib.hid (fun W => goTogether_any x1 y1 x2 y2 n x3 y3 x4 y4 m W)
  rw [h] at HG
  have HD := Lib.hid (fun W => inRange_any k 0 n W)
  rw [h2] at HD
  obtain ⟨k0, k1⟩ := inB_iff.1 h2
  have HS := Lib.hid (fun W => squareAt_any x1 y1 x2 y2 n x3 y3 x4 y4 m k h k0 k1 W)
  obtain ⟨A, B, f3, f4, hA, hB, hB0, f1, f2⟩ := sqAt_nat h k0 k1
  have HP := Lib.hid (fun W => lowestF_any A B hA (by omega) hB0 W)
  rw [f3, f4] at HS
  rw [h, h2, f1, f2]
  obtain ⟨P, hP⟩ : ∃ P, P = lowN A B := ⟨_, rfl⟩
  obtain ⟨Q, hQ⟩ : ∃ Q, Q = lowD A B := ⟨_, rfl⟩
  rw [← hP, ← hQ] at HP
  rw [← hP, ← hQ]
  clear h h2 k0 k1 hA hB hB0 f1 f2 f3 f4 hP hQ
  all_goals
    go_enter Try.func16, Try.ntmps16
    go_wp2_with (first | (go_at_call 58; ((with_reducible refine (HG.out _).mono ?_); rintro e w1 ⟨rfl, hb1⟩; have hs1 := hb1.size; (try simp at hs1); (first | have hk4 := call_facts hl3 hb1 (by first | omega | (simp; done) | (simp; omega)) | skip); (first | have hk3 := call_facts hl2 hb1 (by first | omega | (simp; done) | (simp; omega)) | skip); (first | have hk2 := call_facts hl1 hb1 (by first | omega | (simp; done) | (simp; omega)) | skip); have hk1 := call_facts (fun b h => h) hb1 (Nat.le_refl _); (first | have hl4 := hk4.1 | skip); (first | have hl3 := hk3.1 | skip); (first | have hl2 := hk2.1 | skip); have hl1 := hk1.1)) | (go_at_call 59; ((with_reducible refine (HD.out _).mono ?_); rintro e w' ⟨rfl, rfl⟩)) | (go_at_call 60; ((with_reducible refine (HS.out _).mono ?_); rintro e w1 ⟨rfl, hb1⟩; have hs1 := hb1.size; (try simp at hs1); (first | have hk4 := call_facts hl3 hb1 (by first | omega | (simp; done) | (simp; omega)) | skip); (first | have hk3 := call_facts hl2 hb1 (by first | omega | (simp; done) | (simp; omega)) | skip); (first | have hk2 := call_facts hl1 hb1 (by first | omega | (simp; done) | (simp; omega)) | skip); have hk1 := call_facts (fun b h => h) hb1 (Nat.le_refl _); (first | have hl4 := hk4.1 | skip); (first | have hl3 := hk3.1 | skip); (first | have hl2 := hk2.1 | skip); have hl1 := hk1.1)) | (go_at_call 61; ((with_reducible refine (HP.out _).mono ?_); rintro e w1 ⟨rfl, hb1⟩; have hs1 := hb1.size; (try simp at hs1); (first | have hk4 := call_facts hl3 hb1 (by first | omega | (simp; done) | (simp; omega)) | skip); (first | have hk3 := call_facts hl2 hb1 (by first | omega | (simp; done) | (simp; omega)) | skip); (first | have hk2 := call_facts hl1 hb1 (by first | omega | (simp; done) | (simp; omega)) | skip); have hk1 := call_facts (fun b h => h) hb1 (Nat.le_refl _); (first | have hl4 := hk4.1 | skip); (first | have hl3 := hk3.1 | skip); (first | have hl2 := hk2.1 | skip); have hl1 := hk1.1)))
    first | exact bodyPost_ret (v := .tuple #[.int .i64 P, .int .i64 Q, .bool true]) (by simp [results, Try.results16, go_sem, *]) rfl ⟨rfl, (by repeat (first | exact Below.refl _ _ | assumption | refine Below.drew ?_ | refine below_drewN ?_ _ | refine Below.alloc ?_ (by first | omega | (simp; done) | (simp; omega)) _ | refine Below.setCell ?_ (by first | omega | (simp; done) | (simp; omega)) _ | refine Below.trans ?_ (Below.mono (by assumption) (by first | omega | (simp; done) | (simp; omega)))))⟩

theorem apartAt_any (x1 y1 x2 y2 n x3 y3 x4 y4 m k : Int) (w : World) :
    Calls Try.prog 16 #[.agg #[.int .i64 x1, .int .i64 y1, .int .i64 x2, .int .i64 y2, .int .i64 n], .agg #[.int .i64 x3, .int .i64 y3, .int .i64 x4, .int .i64 y4, .int .i64 m], .int .i64 k] w fun e w' => e = .returned (.tuple #[.int .i64 (guardI (gtog x1 y1 x2 y2 n x3 y3 x4 y4 m && inB 0 k n) (atn x1 y1 x2 y2 n x3 y3 x4 y4 m k)), .int .i64 (guardI (gtog x1 y1 x2 y2 n x3 y3 x4 y4 m && inB 0 k n) (atd x1 y1 x2 y2 n x3 y3 x4 y4 m k)), .bool (gtog x1 y1 x2 y2 n x3 y3 x4 y4 m && inB 0 k n)]) ∧ Below w.heap.size w w' := by
  cases h : gtog x1 y1 x2 y2 n x3 y3 x4 y4 m
  · rw [← h]; exact apartAt_no x1 y1 x2 y2 n x3 y3 x4 y4 m k h w
  · rw [← h]
    cases h2 : inB 0 k n
    · rw [← h2]; exact apartAt_far x1 y1 x2 y2 n x3 y3 x4 y4 m k h h2 w
    · rw [← h2]; exact apartAt_yes x1 y1 x2 y2 n x3 y3 x4 y4 m k h h2 w

end Go.Proofs.Ytjojjmmdgldcbaa
