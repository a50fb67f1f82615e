/- LeastApart, ClosestTime, StayApart: the program's side. Conditions: those written in each theorem. -/
import Derived.Test.YtjojjmmdgldcbaaApLi
import Derived.Test.YtjojjmmdgldcbaaApFr
import Derived.Deep.RegionHeld3
import Derived.Deep.DrawnRows
import Derived.IntWalk
import Derived.StillTailTactics
namespace Go.Proofs.Ytjojjmmdgldcbaa
open Go.RowKit


attribute [local go_sem ↓] Go.wp_at_zero Go.wp_at_succ

theorem cl_low {p q r s : Int} (h : wayOk p q r s) : ∃ A B : Nat, clN p q r s = (A : Int) ∧ clD p q r s = (B : Int) ∧ A ≤ 1000000000000000 ∧ B ≤ 1000000000000000 ∧ 0 < B ∧ lowN A B = aln p q r s ∧ lowD A B = ald p q r s := by
  have h1 := cl_bd h
  have h2 := apN_bd h
  obtain ⟨k, k0, e1, e2, _⟩ := @cl_eq p q r s
  have l := low_mul (A := (apN p q r s).toNat) (B := (apD p q r s).toNat) k0 (by omega)
  have f1 : (clN p q r s).toNat = (apN p q r s).toNat * k := by
    have : ((apN p q r s).toNat : Int) = apN p q r s := by omega
    have g : (((apN p q r s).toNat * k : Nat) : Int) = apN p q r s * (k : Int) := by rw [Int.natCast_mul, this]
    omega
  have f2 : (clD p q r s).toNat = (apD p q r s).toNat * k := by
    have : ((apD p q r s).toNat : Int) = apD p q r s := by omega
    have g : (((apD p q r s).toNat * k : Nat) : Int) = apD p q r s * (k : Int) := by rw [Int.natCast_mul, this]
    omega
  rw [← f1, ← f2] at l
  exact ⟨(clN p q r s).toNat, (clD p q r s).toNat, by omega, by omega, by omega, by omega, by omega, l.1, l.2⟩
theorem cl_time {p q r s n : Int} (h : wayOk p q r s) (n0 : 1 ≤ n) (n1 : n ≤ 64) : ∃ A B : Nat, IntKind.i64.wrap (clP p q r s * n) = (A : Int) ∧ clD p q r s = (B : Int) ∧ A ≤ 1000000000000000 ∧ B ≤ 1000000000000000 ∧ 0 < B ∧ lowN A B = ctn p q r s n ∧ lowD A B = ctd p q r s n := by
  have h1 := cl_bd h
  have h2 := apN_bd h
  have h3 := apT_bd h n0 n1
  obtain ⟨k, k0, _, e2, e1⟩ := @cl_eq p q r s
  have e1 := e1 n
  have b1 := mul_bd (a := clP p q r s) (b := n) (m := 8359936) (n := 64) (by omega) (by omega) (by omega) (by omega)
  have b2 := Int.mul_nonneg (show 0 ≤ clP p q r s by omega) (show 0 ≤ n by omega)
  have l := low_mul (A := (apT p q r s n).toNat) (B := (apD p q r s).toNat) k0 (by omega)
  have f1 : (clP p q r s * n).toNat = (apT p q r s n).toNat * k := by
    have : ((apT p q r s n).toNat : Int) = apT p q r s n := by omega
    have g : (((apT p q r s n).toNat * k : Nat) : Int) = apT p q r s n * (k : Int) := by rw [Int.natCast_mul, this]
    omega
  have f2 : (clD p q r s).toNat = (apD p q r s).toNat * k := by
    have : ((apD p q r s).toNat : Int) = apD p q r s := by omega
    have g : (((apD p q r s).toNat * k : Nat) : Int) = apD p q r s * (k : Int) := by rw [Int.natCast_mul, this]
    omega
  rw [← f1, ← f2] at l
  exact ⟨(clP p q r s * n).toNat, (clD p q r s).toNat, by rw [IntWalk.i64_in _ (by omega)]; omega, by omega, by omega, by omega, by omega, l.1, l.2⟩
theorem cl_stay {p q r s k : Int} (h : wayOk p q r s) : (!fLt (clN p q r s) (clD p q r s) (k * k) 1) = apSt p q r s k := by
  obtain ⟨c, c0, e1, e2, _⟩ := @cl_eq p q r s
  unfold apSt
  rw [e1, e2]
  have e3 := fLt_mul (a := apN p q r s) (b := apD p q r s) (c := k * k) (d := 1) (k := (c : Int)) (m := 1) (by omega) (by omega)
  rw [Int.mul_one, Int.mul_one] at e3
  rw [e3]

set_option maxHeartbeats 1000000 in
theorem least_no (x1 y1 x2 y2 n x3 y3 x4 y4 m : Int) (h : gtog x1 y1 x2 y2 n x3 y3 x4 y4 m = false) (w : World) :
    Calls Try.prog 18 #[.agg #[.int .i64 x1, .int .i64 y1, .int .i64 x2, .int .i64 y2, .int .i64 n], .agg #[.int .i64 x3, .int .i64 y3, .int .i64 x4, .int .i64 y4, .int .i64 m]] w fun e w' => e = .returned (.tuple #[.int .i64 (guardI (gtog x1 y1 x2 y2 n x3 y3 x4 y4 m) (aln (x1 - x3) (y1 - y3) (x2 - x4) (y2 - y4))), .int .i64 (guardI (gtog x1 y1 x2 y2 n x3 y3 x4 y4 m) (ald (x1 - x3) (y1 - y3) (x2 - x4) (y2 - y4))), .bool (gtog x1 y1 x2 y2 n x3 y3 x4 y4 m)]) ∧ Below w.heap.size w w' := by
  obtain ⟨q1, q2, q3, q4, q5, q6, q7⟩ := nadd
  have HG := Lib.hid (fun W => goTogether_any x1 y1 x2 y2 n x3 y3 x4 y4 m W)
  rw [h] at HG
  rw [h]
  clear h
  all_goals
    go_enter Try.func18, Try.ntmps18
    go_wp2_with (first | (go_at_call 58; ((with_reducible refine (HG.out _).mono ?_); rintro e w1 ⟨rfl, hb1⟩; have hs1 := hb1.size; (try simp at hs1); (first | have hk4 := call_facts hl3 hb1 (by first | omega | (simp; done) | (simp; omega)) | skip); (first | have hk3 := call_facts hl2 hb1 (by first | omega | (simp; done) | (simp; omega)) | skip); (first | have hk2 := call_facts hl1 hb1 (by first | omega | (simp; done) | (simp; omega)) | skip); have hk1 := call_facts (fun b h => h) hb1 (Nat.le_refl _); (first | have hl4 := hk4.1 | skip); (first | have hl3 := hk3.1 | skip); (first | have hl2 := hk2.1 | skip); have hl1 := hk1.1)))
    first | exact bodyPost_ret (v := .tuple #[.int .i64 0, .int .i64 0, .bool false]) (by simp [results, Try.results18, go_sem, *]) rfl ⟨rfl, (by repeat (first | exact Below.refl _ _ | assumption | refine Below.drew ?_ | refine below_drewN ?_ _ | refine Below.alloc ?_ (by first | omega | (simp; done) | (simp; omega)) _ | refine Below.setCell ?_ (by first | omega | (simp; done) | (simp; omega)) _ | refine Below.trans ?_ (Below.mono (by assumption) (by first | omega | (simp; done) | (simp; omega)))))⟩

set_option maxHeartbeats 2000000 in
theorem least_yes (x1 y1 x2 y2 n x3 y3 x4 y4 m : Int) (h : gtog x1 y1 x2 y2 n x3 y3 x4 y4 m = true) (w : World) :
    Calls Try.prog 18 #[.agg #[.int .i64 x1, .int .i64 y1, .int .i64 x2, .int .i64 y2, .int .i64 n], .agg #[.int .i64 x3, .int .i64 y3, .int .i64 x4, .int .i64 y4, .int .i64 m]] w fun e w' => e = .returned (.tuple #[.int .i64 (guardI (gtog x1 y1 x2 y2 n x3 y3 x4 y4 m) (aln (x1 - x3) (y1 - y3) (x2 - x4) (y2 - y4))), .int .i64 (guardI (gtog x1 y1 x2 y2 n x3 y3 x4 y4 m) (ald (x1 - x3) (y1 - y3) (x2 - x4) (y2 - y4))), .bool (gtog x1 y1 x2 y2 n x3 y3 x4 y4 m)]) ∧ Below w.heap.size w w' := by
  obtain ⟨q1, q2, q3, q4, q5, q6, q7⟩ := nadd
  have HG := Lib.hid (fun W => goTogether_any x1 y1 x2 y2 n x3 y3 x4 y4 m W)
  rw [h] at HG
  obtain ⟨hw, ⟨n0, n1⟩, nm, v1, v2, v3, v4⟩ := gtog_way h
  have HL := Lib.hid (fun W => leastSq_any x1 y1 x2 y2 n x3 y3 x4 y4 m _ _ _ _ v1 v2 v3 v4 hw h W)
  obtain ⟨A, B, e1, e2, e3, e4, e5, e6, e7⟩ := cl_low hw
  rw [e1, e2] at HL
  have HP := Lib.hid (fun W => lowestF_any A B e3 e4 e5 W)
  rw [e6, e7] at HP
  obtain ⟨P, hP⟩ : ∃ P, P = aln (x1 - x3) (y1 - y3) (x2 - x4) (y2 - y4) := ⟨_, rfl⟩
  obtain ⟨Q, hQ⟩ : ∃ Q, Q = ald (x1 - x3) (y1 - y3) (x2 - x4) (y2 - y4) := ⟨_, rfl⟩
  rw [← hP, ← hQ] at HP
  rw [h, ← hP, ← hQ]
  clear h hw n0 n1 nm v1 v2 v3 v4 e1 e2 e3 e4 e5 e6 e7 hP hQ
  all_goals
    go_enter Try.func18, Try.ntmps18
    go_wp2_with (first | (go_at_call 58; ((with_reducible refine (HG.out _).mono ?_); rintro e w1 ⟨rfl, hb1⟩; have hs1 := hb1.size; (try simp at hs1); (first | have hk4 := call_facts hl3 hb1 (by first | omega | (simp; done) | (simp; omega)) | skip); (first | have hk3 := call_facts hl2 hb1 (by first | omega | (simp; done) | (simp; omega)) | skip); (first | have hk2 := call_facts hl1 hb1 (by first | omega | (simp; done) | (simp; omega)) | skip); have hk1 := call_facts (fun b h => h) hb1 (Nat.le_refl _); (first | have hl4 := hk4.1 | skip); (first | have hl3 := hk3.1 | skip); (first | have hl2 := hk2.1 | skip); have hl1 := hk1.1)) | (go_at_call 63; ((with_reducible refine (HL.out _).mono ?_); rintro e w1 ⟨rfl, hb1⟩; have hs1 := hb1.size; (try simp at hs1); (first | have hk4 := call_facts hl3 hb1 (by first | omega | (simp; done) | (simp; omega)) | skip); (first | have hk3 := call_facts hl2 hb1 (by first | omega | (simp; done) | (simp; omega)) | skip); (first | have hk2 := call_facts hl1 hb1 (by first | omega | (simp; done) | (simp; omega)) | skip); have hk1 := call_facts (fun b h => h) hb1 (Nat.le_refl _); (first | have hl4 := hk4.1 | skip); (first | have hl3 := hk3.1 | skip); (first | have hl2 := hk2.1 | skip); have hl1 := hk1.1)) | (go_at_call 61; ((with_reducible refine (HP.out _).mono ?_); rintro e w1 ⟨rfl, hb1⟩; have hs1 := hb1.size; (try simp at hs1); (first | have hk4 := call_facts hl3 hb1 (by first | omega | (simp; done) | (simp; omega)) | skip); (first | have hk3 := call_facts hl2 hb1 (by first | omega | (simp; done) | (simp; omega)) | skip); (first | have hk2 := call_facts hl1 hb1 (by first | omega | (simp; done) | (simp; omega)) | skip); have hk1 := call_facts (fun b h => h) hb1 (Nat.le_refl _); (first | have hl4 := hk4.1 | skip); (first | have hl3 := hk3.1 | skip); (first | have hl2 := hk2.1 | skip); have hl1 := hk1.1)))
    first | exact bodyPost_ret (v := .tuple #[.int .i64 P, .int .i64 Q, .bool true]) (by simp [results, Try.results18, go_sem, *]) rfl ⟨rfl, (by repeat (first | exact Below.refl _ _ | assumption | refine Below.drew ?_ | refine below_drewN ?_ _ | refine Below.alloc ?_ (by first | omega | (simp; done) | (simp; omega)) _ | refine Below.setCell ?_ (by first | omega | (simp; done) | (simp; omega)) _ | refine Below.trans ?_ (Below.mono (by assumption) (by first | omega | (simp; done) | (simp; omega)))))⟩

theorem least_any (x1 y1 x2 y2 n x3 y3 x4 y4 m : Int) (w : World) :
    Calls Try.prog 18 #[.agg #[.int .i64 x1, .int .i64 y1, .int .i64 x2, .int .i64 y2, .int .i64 n], .agg #[.int .i64 x3, .int .i64 y3, .int .i64 x4, .int .i64 y4, .int .i64 m]] w fun e w' => e = .returned (.tuple #[.int .i64 (guardI (gtog x1 y1 x2 y2 n x3 y3 x4 y4 m) (aln (x1 - x3) (y1 - y3) (x2 - x4) (y2 - y4))), .int .i64 (guardI (gtog x1 y1 x2 y2 n x3 y3 x4 y4 m) (ald (x1 - x3) (y1 - y3) (x2 - x4) (y2 - y4))), .bool (gtog x1 y1 x2 y2 n x3 y3 x4 y4 m)]) ∧ Below w.heap.size w w' := by
  cases h : gtog x1 y1 x2 y2 n x3 y3 x4 y4 m
  · rw [← h]; exact least_no x1 y1 x2 y2 n x3 y3 x4 y4 m h w
  · rw [← h]; exact least_yes x1 y1 x2 y2 n x3 y3 x4 y4 m h w

set_option maxHeartbeats 1000000 in
theorem time_no (x1 y1 x2 y2 n x3 y3 x4 y4 m : Int) (h : gtog x1 y1 x2 y2 n x3 y3 x4 y4 m = false) (w : World) :
    Calls Try.prog 20 #[.agg #[.int .i64 x1, .int .i64 y1, .int .i64 x2, .int .i64 y2, .int .i64 n], .agg #[.int .i64 x3, .int .i64 y3, .int .i64 x4, .int .i64 y4, .int .i64 m]] w fun e w' => e = .returned (.tuple #[.int .i64 (guardI (gtog x1 y1 x2 y2 n x3 y3 x4 y4 m) (ctn (x1 - x3) (y1 - y3) (x2 - x4) (y2 - y4) n)), .int .i64 (guardI (gtog x1 y1 x2 y2 n x3 y3 x4 y4 m) (ctd (x1 - x3) (y1 - y3) (x2 - x4) (y2 - y4) n)), .bool (gtog x1 y1 x2 y2 n x3 y3 x4 y4 m)]) ∧ Below w.heap.size w w' := by
  obtain ⟨q1, q2, q3, q4, q5, q6, q7⟩ := nadd
  have HG := Lib.hid (fun W => goTogether_any x1 y1 x2 y2 n x3 y3 x4 y4 m W)
  rw [h] at HG
  rw [h]
  clear h
  all_goals
    go_enter Try.func20, Try.ntmps20
    go_wp2_with (first | (go_at_call 58; ((with_reducible refine (HG.out _).mono ?_); rintro e w1 ⟨rfl, hb1⟩; have hs1 := hb1.size; (try simp at hs1); (first | have hk4 := call_facts hl3 hb1 (by first | omega | (simp; done) | (simp; omega)) | skip); (first | have hk3 := call_facts hl2 hb1 (by first | omega | (simp; done) | (simp; omega)) | skip); (first | have hk2 := call_facts hl1 hb1 (by first | omega | (simp; done) | (simp; omega)) | skip); have hk1 := call_facts (fun b h => h) hb1 (Nat.le_refl _); (first | have hl4 := hk4.1 | skip); (first | have hl3 := hk3.1 | skip); (first | have hl2 := hk2.1 | skip); have hl1 := hk1.1)))
    first | exact bodyPost_ret (v := .tuple #[.int .i64 0, .int .i64 0, .bool false]) (by simp [results, Try.results20, go_sem, *]) rfl ⟨rfl, (by repeat (first | exact Below.refl _ _ | assumption | refine Below.drew ?_ | refine below_drewN ?_ _ | refine Below.alloc ?_ (by first | omega | (simp; done) | (simp; omega)) _ | refine Below.setCell ?_ (by first | omega | (simp; done) | (simp; omega)) _ | refine Below.trans ?_ (Below.mono (by assumption) (by first | omega | (simp; done) | (simp; omega)))))⟩

set_option maxHeartbeats 2000000 in
theorem time_yes (x1 y1 x2 y2 n x3 y3 x4 y4 m : Int) (h : gtog x1 y1 x2 y2 n x3 y3 x4 y4 m = true) (w : World) :
    Calls Try.prog 20 #[.agg #[.int .i64 x1, .int .i64 y1, .int .i64 x2, .int .i64 y2, .int .i64 n], .agg #[.int .i64 x3, .int .i64 y3, .int .i64 x4, .int .i64 y4, .int .i64 m]] w fun e w' => e = .returned (.tuple #[.int .i64 (guardI (gtog x1 y1 x2 y2 n x3 y3 x4 y4 m) (ctn (x1 - x3) (y1 - y3) (x2 - x4) (y2 - y4) n)), .int .i64 (guardI (gtog x1 y1 x2 y2 n x3 y3 x4 y4 m) (ctd (x1 - x3) (y1 - y3) (x2 - x4) (y2 - y4) n)), .bool (gtog x1 y1 x2 y2 n x3 y3 x4 y4 m)]) ∧ Below w.heap.size w w' := by
  obtain ⟨q1, q2, q3, q4, q5, q6, q7⟩ := nadd
  have HG := Lib.hid (fun W => goTogether_any x1 y1 x2 y2 n x3 y3 x4 y4 m W)
  rw [h] at HG
  obtain ⟨hw, ⟨n0, n1⟩, nm, v1, v2, v3, v4⟩ := gtog_way h
  have HL := Lib.hid (fun W => closest_any x1 y1 x2 y2 n x3 y3 x4 y4 m _ _ _ _ v1 v2 v3 v4 hw h W)
  obtain ⟨A, B, e1, e2, e3, e4, e5, e6, e7⟩ := cl_time hw n0 n1
  rw [e2] at HL
  have HP := Lib.hid (fun W => lowestF_any A B e3 e4 e5 W)
  rw [e6, e7] at HP
  obtain ⟨P, hP⟩ : ∃ P, P = ctn (x1 - x3) (y1 - y3) (x2 - x4) (y2 - y4) n := ⟨_, rfl⟩
  obtain ⟨Q, hQ⟩ : ∃ Q, Q = ctd (x1 - x3) (y1 - y3) (x2 - x4) (y2 - y4) n := ⟨_, rfl⟩
  rw [← hP, ← hQ] at HP
  rw [h, ← hP, ← hQ]
  obtain ⟨K, hK⟩ : ∃ K, K = clP (x1 - x3) (y1 - y3) (x2 - x4) (y2 - y4) := ⟨_, rfl⟩
  obtain ⟨L, hL⟩ : ∃ K, K = clN (x1 - x3) (y1 - y3) (x2 - x4) (y2 - y4) := ⟨_, rfl⟩
  rw [← hK, ← hL] at HL
  rw [← hK] at e1
  clear h hw n0 n1 nm v1 v2 v3 v4 e2 e3 e4 e5 e6 e7 hP hQ hK hL
  all_goals
    go_enter Try.func20, Try.ntmps20
    go_wp2_with (first | (go_at_call 58; ((with_reducible refine (HG.out _).mono ?_); rintro e w1 ⟨rfl, hb1⟩; have hs1 := hb1.size; (try simp at hs1); (first | have hk4 := call_facts hl3 hb1 (by first | omega | (simp; done) | (simp; omega)) | skip); (first | have hk3 := call_facts hl2 hb1 (by first | omega | (simp; done) | (simp; omega)) | skip); (first | have hk2 := call_facts hl1 hb1 (by first | omega | (simp; done) | (simp; omega)) | skip); have hk1 := call_facts (fun b h => h) hb1 (Nat.le_refl _); (first | have hl4 := hk4.1 | skip); (first | have hl3 := hk3.1 | skip); (first | have hl2 := hk2.1 | skip); have hl1 := hk1.1)) | (go_at_call 66; ((with_reducible refine (HL.out _).mono ?_); rintro e w1 ⟨rfl, hb1⟩; have hs1 := hb1.size; (try simp at hs1); (first | have hk4 := call_facts hl3 hb1 (by first | omega | (simp; done) | (simp; omega)) | skip); (first | have hk3 := call_facts hl2 hb1 (by first | omega | (simp; done) | (simp; omega)) | skip); (first | have hk2 := call_facts hl1 hb1 (by first | omega | (simp; done) | (simp; omega)) | skip); have hk1 := call_facts (fun b h => h) hb1 (Nat.le_refl _); (first | have hl4 := hk4.1 | skip); (first | have hl3 := hk3.1 | skip); (first | have hl2 := hk2.1 | skip); have hl1 := hk1.1; have zl00 : w.heap.size < w1.heap.size := (by omega); have zn00 : ¬ w.heap.size = w1.heap.size := (by omega); have zm00 : ¬ w1.heap.size = w.heap.size := (by omega); have zl01 : w.heap.size < w1.heap.size + 1 := (by omega); have zn01 : ¬ w.heap.size = w1.heap.size + 1 := (by omega); have zm01 : ¬ w1.heap.size + 1 = w.heap.size := (by omega); have zl02 : w.heap.size < w1.heap.size + 1 + 1 := (by omega); have zn02 : ¬ w.heap.size = w1.heap.size + 1 + 1 := (by omega); have zm02 : ¬ w1.heap.size + 1 + 1 = w.heap.size := (by omega); have zl10 : w.heap.size + 1 < w1.heap.size := (by omega); have zn10 : ¬ w.heap.size + 1 = w1.heap.size := (by omega); have zm10 : ¬ w1.heap.size = w.heap.size + 1 := (by omega); have zl11 : w.heap.size + 1 < w1.heap.size + 1 := (by omega); have zn11 : ¬ w.heap.size + 1 = w1.heap.size + 1 := (by omega); have zm11 : ¬ w1.heap.size + 1 = w.heap.size + 1 := (by omega); have zl12 : w.heap.size + 1 < w1.heap.size + 1 + 1 := (by omega); have zn12 : ¬ w.heap.size + 1 = w1.heap.size + 1 + 1 := (by omega); have zm12 : ¬ w1.heap.size + 1 + 1 = w.heap.size + 1 := (by omega))) | (go_at_call 61; ((with_reducible refine (HP.out _).mono ?_); rintro e w1 ⟨rfl, hb1⟩; have hs1 := hb1.size; (try simp at hs1); (first | have hk4 := call_facts hl3 hb1 (by first | omega | (simp; done) | (simp; omega)) | skip); (first | have hk3 := call_facts hl2 hb1 (by first | omega | (simp; done) | (simp; omega)) | skip); (first | have hk2 := call_facts hl1 hb1 (by first | omega | (simp; done) | (simp; omega)) | skip); have hk1 := call_facts (fun b h => h) hb1 (Nat.le_refl _); (first | have hl4 := hk4.1 | skip); (first | have hl3 := hk3.1 | skip); (first | have hl2 := hk2.1 | skip); have hl1 := hk1.1)))
    first | exact bodyPost_ret (v := .tuple #[.int .i64 P, .int .i64 Q, .bool true]) (by simp [results, Try.results20, go_sem, *]) rfl ⟨rfl, (by repeat (first | exact Below.refl _ _ | assumption | refine Below.drew ?_ | refine below_drewN ?_ _ | refine Below.alloc ?_ (by first | omega | (simp; done) | (simp; omega)) _ | refine Below.setCell ?_ (by first | omega | (simp; done) | (simp; omega)) _ | refine Below.trans ?_ (Below.mono (by assumption) (by first | omega | (simp; done) | (simp; omega)))))⟩

theorem time_any (x1 y1 x2 y2 n x3 y3 x4 y4 m : Int) (w : World) :
    Calls Try.prog 20 #[.agg #[.int .i64 x1, .int .i64 y1, .int .i64 x2, .int .i64 y2, .int .i64 n], .agg #[.int .i64 x3, .int .i64 y3, .int .i64 x4, .int .i64 y4, .int .i64 m]] w fun e w' => e = .returned (.tuple #[.int .i64 (guardI (gtog x1 y1 x2 y2 n x3 y3 x4 y4 m) (ctn (x1 - x3) (y1 - y3) (x2 - x4) (y2 - y4) n)), .int .i64 (guardI (gtog x1 y1 x2 y2 n x3 y3 x4 y4 m) (ctd (x1 - x3) (y1 - y3) (x2 - x4) (y2 - y4) n)), .bool (gtog x1 y1 x2 y2 n x3 y3 x4 y4 m)]) ∧ Below w.heap.size w w' := by
  cases h : gtog x1 y1 x2 y2 n x3 y3 x4 y4 m
  · rw [← h]; exact time_no x1 y1 x2 y2 n x3 y3 x4 y4 m h w
  · rw [← h]; exact time_yes x1 y1 x2 y2 n x3 y3 x4 y4 m h w

set_option maxHeartbeats 1000000 in
theorem stay_any (x1 y1 x2 y2 n x3 y3 x4 y4 m p q r s k : Int) (v1 : IntKind.i64.wrap (x1 - x3) = p) (v2 : IntKind.i64.wrap (y1 - y3) = q) (v3 : IntKind.i64.wrap (x2 - x4) = r) (v4 : IntKind.i64.wrap (y2 - y4) = s) (h : wayOk p q r s) (hg : gtog x1 y1 x2 y2 n x3 y3 x4 y4 m = true) (k0 : 0 ≤ k) (k1 : k ≤ 80) (w : World) :
    Calls Try.prog 70 #[.agg #[.int .i64 x1, .int .i64 y1, .int .i64 x2, .int .i64 y2, .int .i64 n], .agg #[.int .i64 x3, .int .i64 y3, .int .i64 x4, .int .i64 y4, .int .i64 m], .int .i64 k] w fun e w' => e = .returned (.bool (apSt p q r s k)) ∧ Below w.heap.size w w' := by
  obtain ⟨q1, q2, q3, q4, q5, q6, q7⟩ := nadd
  have HL := Lib.hid (fun W => leastSq_any x1 y1 x2 y2 n x3 y3 x4 y4 m p q r s v1 v2 v3 v4 h hg W)
  obtain ⟨c1, c2, c3, _⟩ := cl_bd h
  have HC := Lib.hid (fun W => closer_any (clN p q r s) (clD p q r s) k c1.1 (by omega) c2 (by omega) k0 k1 W)
  have e0 := cl_stay (k := k) h
  obtain ⟨t, ht⟩ : ∃ t, t = fLt (clN p q r s) (clD p q r s) (k * k) 1 := ⟨_, rfl⟩
  rw [← ht] at HC e0
  obtain ⟨D, hD⟩ : ∃ z, z = clD p q r s := ⟨_, rfl⟩
  obtain ⟨N, hN⟩ : ∃ z, z = clN p q r s := ⟨_, rfl⟩
  rw [← hN, ← hD] at HC HL
  rw [← e0]
  clear e0 ht hD hN c1 c2 c3 h hg k0 k1 v1 v2 v3 v4
  all_goals
    go_enter Try.func70, Try.ntmps70
    go_wp2_with (first | (go_at_call 63; ((with_reducible refine (HL.out _).mono ?_); rintro e w1 ⟨rfl, hb1⟩; have hs1 := hb1.size; (try simp at hs1); (first | have hk4 := call_facts hl3 hb1 (by first | omega | (simp; done) | (simp; omega)) | skip); (first | have hk3 := call_facts hl2 hb1 (by first | omega | (simp; done) | (simp; omega)) | skip); (first | have hk2 := call_facts hl1 hb1 (by first | omega | (simp; done) | (simp; omega)) | skip); have hk1 := call_facts (fun b h => h) hb1 (Nat.le_refl _); (first | have hl4 := hk4.1 | skip); (first | have hl3 := hk3.1 | skip); (first | have hl2 := hk2.1 | skip); have hl1 := hk1.1)) | (go_at_call 71; ((with_reducible refine (HC.out _).mono ?_); rintro e w1 ⟨rfl, hb1⟩; have hs1 := hb1.size; (try simp at hs1); (first | have hk4 := call_facts hl3 hb1 (by first | omega | (simp; done) | (simp; omega)) | skip); (first | have hk3 := call_facts hl2 hb1 (by first | omega | (simp; done) | (simp; omega)) | skip); (first | have hk2 := call_facts hl1 hb1 (by first | omega | (simp; done) | (simp; omega)) | skip); have hk1 := call_facts (fun b h => h) hb1 (Nat.le_refl _); (first | have hl4 := hk4.1 | skip); (first | have hl3 := hk3.1 | skip); (first | have hl2 := hk2.1 | skip); have hl1 := hk1.1)))
    first | exact bodyPost_ret (v := .bool (!t)) (by simp [results, Try.results70, go_sem, *]) rfl ⟨rfl, (by repeat (first | exact Below.refl _ _ | assumption | refine Below.drew ?_ | refine below_drewN ?_ _ | refine Below.alloc ?_ (by first | omega | (simp; done) | (simp; omega)) _ | refine Below.setCell ?_ (by first | omega | (simp; done) | (simp; omega)) _ | refine Below.trans ?_ (Below.mono (by assumption) (by first | omega | (simp; done) | (simp; omega)))))⟩

set_option maxHeartbeats 1000000 in
theorem stayX_no (x1 y1 x2 y2 n x3 y3 x4 y4 m k : Int) (h : gtog x1 y1 x2 y2 n x3 y3 x4 y4 m = false) (w : World) :
    Calls Try.prog 22 #[.agg #[.int .i64 x1, .int .i64 y1, .int .i64 x2, .int .i64 y2, .int .i64 n], .agg #[.int .i64 x3, .int .i64 y3, .int .i64 x4, .int .i64 y4, .int .i64 m], .int .i64 k] w fun e w' => e = .returned (.tuple #[.bool ((gtog x1 y1 x2 y2 n x3 y3 x4 y4 m && inB 0 k 80) && apSt (x1 - x3) (y1 - y3) (x2 - x4) (y2 - y4) k), .bool (gtog x1 y1 x2 y2 n x3 y3 x4 y4 m && inB 0 k 80)]) ∧ Below w.heap.size w w' := by
  obtain ⟨q1, q2, q3, q4, q5, q6, q7⟩ := nadd
  have HG := Lib.hid (fun W => goTogether_any x1 y1 x2 y2 n x3 y3 x4 y4 m W)
  rw [h] at HG
  rw [h]
  clear h
  all_goals
    go_enter Try.func22, Try.ntmps22
    go_wp2_with (first | (go_at_call 58; ((with_reducible refine (HG.out _).mono ?_); rintro e w1 ⟨rfl, hb1⟩; have hs1 := hb1.size; (try simp at hs1); (first | have hk4 := call_facts hl3 hb1 (by first | omega | (simp; done) | (simp; omega)) | skip); (first | have hk3 := call_facts hl2 hb1 (by first | omega | (simp; done) | (simp; omega)) | skip); (first | have hk2 := call_facts hl1 hb1 (by first | omega | (simp; done) | (simp; omega)) | skip); have hk1 := call_facts (fun b h => h) hb1 (Nat.le_refl _); (first | have hl4 := hk4.1 | skip); (first | have hl3 := hk3.1 | skip); (first | have hl2 := hk2.1 | skip); have hl1 := hk1.1)) | (go_at_call 69; (refine (isLeast_any _).mono ?_; rintro e w' ⟨rfl, rfl⟩)))
    first | exact bodyPost_ret (v := .tuple #[.bool false, .bool false]) (by simp [results, Try.results22, go_sem, *]) rfl ⟨rfl, (by repeat (first | exact Below.refl _ _ | assumption | refine Below.drew ?_ | refine below_drewN ?_ _ | refine Below.alloc ?_ (by first | omega | (simp; done) | (simp; omega)) _ | refine Below.setCell ?_ (by first | omega | (simp; done) | (simp; omega)) _ | refine Below.trans ?_ (Below.mono (by assumption) (by first | omega | (simp; done) | (simp; omega)))))⟩

set_option maxHeartbeats 1000000 in
theorem stayX_far (x1 y1 x2 y2 n x3 y3 x4 y4 m k : Int) (h : gtog x1 y1 x2 y2 n x3 y3 x4 y4 m = true) (h2 : inB 0 k 80 = false) (w : World) :
    Calls Try.prog 22 #[.agg #[.int .i64 x1, .int .i64 y1, .int .i64 x2, .int .i64 y2, .int .i64 n], .agg #[.int .i64 x3, .int .i64 y3, .int .i64 x4, .int .i64 y4, .int .i64 m], .int .i64 k] w fun e w' => e = .returned (.tuple #[.bool ((gtog x1 y1 x2 y2 n x3 y3 x4 y4 m && inB 0 k 80) && apSt (x1 - x3) (y1 - y3) (x2 - x4) (y2 - y4) k), .bool (gtog x1 y1 x2 y2 n x3 y3 x4 y4 m && inB 0 k 80)]) ∧ Below w.heap.size w w' := by
  obtain ⟨q1, q2, q3, q4, q5, q6, q7⟩ := nadd
  have HG := Lib.hid (fun W => goTogether_any x1 y1 x2 y2 n x3 y3 x4 y4 m W)
  rw [h] at HG
  rw [h, h2]
  have HD := Lib.hid (fun W => isLeast_any k W)
  rw [h2] at HD
  clear h h2
  all_goals
    go_enter Try.func22, Try.ntmps22
    go_wp2_with (first | (go_at_call 58; ((with_reducible refine (HG.out _).mono ?_); rintro e w1 ⟨rfl, hb1⟩; have hs1 := hb1.size; (try simp at hs1); (first | have hk4 := call_facts hl3 hb1 (by first | omega | (simp; done) | (simp; omega)) | skip); (first | have hk3 := call_facts hl2 hb1 (by first | omega | (simp; done) | (simp; omega)) | skip); (first | have hk2 := call_facts hl1 hb1 (by first | omega | (simp; done) | (simp; omega)) | skip); have hk1 := call_facts (fun b h => h) hb1 (Nat.le_refl _); (first | have hl4 := hk4.1 | skip); (first | have hl3 := hk3.1 | skip); (first | have hl2 := hk2.1 | skip); have hl1 := hk1.1)) | (go_at_call 69; ((with_reducible refine (HD.out _).mono ?_); rintro e w' ⟨rfl, rfl⟩)))
    first | exact bodyPost_ret (v := .tuple #[.bool false, .bool false]) (by simp [results, Try.results22, go_sem, *]) rfl ⟨rfl, (by repeat (first | exact Below.refl _ _ | assumption | refine Below.drew ?_ | refine below_drewN ?_ _ | refine Below.alloc ?_ (by first | omega | (simp; done) | (simp; omega)) _ | refine Below.setCell ?_ (by first | omega | (simp; done) | (simp; omega)) _ | refine Below.trans ?_ (Below.mono (by assumption) (by first | omega | (simp; done) | (simp; omega)))))⟩

set_option maxHeartbeats 1000000 in
theorem stayX_yes (x1 y1 x2 y2 n x3 y3 x4 y4 m k : Int) (h : gtog x1 y1 x2 y2 n x3 y3 x4 y4 m = true) (h2 : inB 0 k 80 = true) (w : World) :
    Calls Try.prog 22 #[.agg #[.int .i64 x1, .int .i64 y1, .int .i64 x2, .int .i64 y2, .int .i64 n], .agg #[.int .i64 x3, .int .i64 y3, .int .i64 x4, .int .i64 y4, .int .i64 m], .int .i64 k] w fun e w' => e = .returned (.tuple #[.bool ((gtog x1 y1 x2 y2 n x3 y3 x4 y4 m && inB 0 k 80) && apSt (x1 - x3) (y1 - y3) (x2 - x4) (y2 - y4) k), .bool (gtog x1 y1 x2 y2 n x3 y3 x4 y4 m && inB 0 k 80)]) ∧ Below w.heap.size w w' := by
  obtain ⟨q1, q2, q3, q4, q5, q6, q7⟩ := nadd
  have HG := Lib.hid (fun W => goTogether_any x1 y1 x2 y2 n x3 y3 x4 y4 m W)
  rw [h] at HG
  have HD := Lib.hid (fun W => isLeast_any k W)
  rw [h2] at HD
  obtain ⟨k0, k1⟩ := inB_iff.1 h2
  obtain ⟨hw, ⟨n0, n1⟩, nm, v1, v2, v3, v4⟩ := gtog_way h
  have HS := Lib.hid (fun W => stay_any x1 y1 x2 y2 n x3 y3 x4 y4 m _ _ _ _ k v1 v2 v3 v4 hw h k0 k1 W)
  obtain ⟨S, hS⟩ : ∃ S, S = apSt (x1 - x3) (y1 - y3) (x2 - x4) (y2 - y4) k := ⟨_, rfl⟩
  rw [← hS] at HS
  rw [h, h2, ← hS]
  clear h h2 hw n0 n1 nm v1 v2 v3 v4 hS k0 k1
  all_goals
    go_enter Try.func22, Try.ntmps22
    go_wp2_with (first | (go_at_call 58; ((with_reducible refine (HG.out _).mono ?_); rintro e w1 ⟨rfl, hb1⟩; have hs1 := hb1.size; (try simp at hs1); (first | have hk4 := call_facts hl3 hb1 (by first | omega | (simp; done) | (simp; omega)) | skip); (first | have hk3 := call_facts hl2 hb1 (by first | omega | (simp; done) | (simp; omega)) | skip); (first | have hk2 := call_facts hl1 hb1 (by first | omega | (simp; done) | (simp; omega)) | skip); have hk1 := call_facts (fun b h => h) hb1 (Nat.le_refl _); (first | have hl4 := hk4.1 | skip); (first | have hl3 := hk3.1 | skip); (first | have hl2 := hk2.1 | skip); have hl1 := hk1.1)) | (go_at_call 69; ((with_reducible refine (HD.out _).mono ?_); rintro e w' ⟨rfl, rfl⟩)) | (go_at_call 70; ((with_reducible refine (HS.out _).mono ?_); rintro e w1 ⟨rfl, hb1⟩; have hs1 := hb1.size; (try simp at hs1); (first | have hk4 := call_facts hl3 hb1 (by first | omega | (simp; done) | (simp; omega)) | skip); (first | have hk3 := call_facts hl2 hb1 (by first | omega | (simp; done) | (simp; omega)) | skip); (first | have hk2 := call_facts hl1 hb1 (by first | omega | (simp; done) | (simp; omega)) | skip); have hk1 := call_facts (fun b h => h) hb1 (Nat.le_refl _); (first | have hl4 := hk4.1 | skip); (first | have hl3 := hk3.1 | skip); (first | have hl2 := hk2.1 | skip); have hl1 := hk1.1)))
    first | exact bodyPost_ret (v := .tuple #[.bool S, .bool true]) (by simp [results, Try.results22, go_sem, *]) rfl ⟨rfl, (by repeat (first | exact Below.refl _ _ | assumption | refine Below.drew ?_ | refine below_drewN ?_ _ | refine Below.alloc ?_ (by first | omega | (simp; done) | (simp; omega)) _ | refine Below.setCell ?_ (by first | omega | (simp; done) | (simp; omega)) _ | refine Below.trans ?_ (Below.mono (by assumption) (by first | omega | (simp; done) | (simp; omega)))))⟩

theorem stayX_any (x1 y1 x2 y2 n x3 y3 x4 y4 m k : Int) (w : World) :
    Calls Try.prog 22 #[.agg #[.int .i64 x1, .int .i64 y1, .int .i64 x2, .int .i64 y2, .int .i64 n], .agg #[.int .i64 x3, .int .i64 y3, .int .i64 x4, .int .i64 y4, .int .i64 m], .int .i64 k] w fun e w' => e = .returned (.tuple #[.bool ((gtog x1 y1 x2 y2 n x3 y3 x4 y4 m && inB 0 k 80) && apSt (x1 - x3) (y1 - y3) (x2 - x4) (y2 - y4) k), .bool (gtog x1 y1 x2 y2 n x3 y3 x4 y4 m && inB 0 k 80)]) ∧ Below w.heap.size w w' := by
  cases h : gtog x1 y1 x2 y2 n x3 y3 x4 y4 m
  · rw [← h]; exact stayX_no x1 y1 x2 y2 n x3 y3 x4 y4 m k h w
  · rw [← h]
    cases h2 : inB 0 k 80
    · rw [← h2]; exact stayX_far x1 y1 x2 y2 n x3 y3 x4 y4 m k h h2 w
    · rw [← h2]; exact stayX_yes x1 y1 x2 y2 n x3 y3 x4 y4 m k h h2 w

end Go.Proofs.Ytjojjmmdgldcbaa
