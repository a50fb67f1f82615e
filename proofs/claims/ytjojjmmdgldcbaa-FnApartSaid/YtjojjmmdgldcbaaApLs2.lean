/- LeastApart, ClosestTime, StayApart, ApartAt: the specification's side. Conditions: those written in each theorem. -/
import Derived.Test.YtjojjmmdgldcbaaApLs
import Derived.Test.YtjojjmmdgldcbaaMvAt
import Derived.Deep.RegionHeld3
import Derived.Deep.DrawnRows
import Derived.IntWalk
import Derived.StillTailTactics
namespace Go.Proofs.Ytjojjmmdgldcbaa
open Go.RowKit


attribute [local go_sem ↓] Go.wp_at_zero Go.wp_at_succ

set_option maxHeartbeats 1000000 in
theorem specLeast_no (x1 y1 x2 y2 n x3 y3 x4 y4 m : Int) (h : gtog x1 y1 x2 y2 n x3 y3 x4 y4 m = false) (w : World) :
    Calls Try.prog 17 #[.agg #[.int .i64 x1, .int .i64 y1, .int .i64 x2, .int .i64 y2, .int .i64 n], .agg #[.int .i64 x3, .int .i64 y3, .int .i64 x4, .int .i64 y4, .int .i64 m]] w fun e w' => e = .returned (.tuple #[.int .i64 (guardI (gtog x1 y1 x2 y2 n x3 y3 x4 y4 m) (aln (x1 - x3) (y1 - y3) (x2 - x4) (y2 - y4))), .int .i64 (guardI (gtog x1 y1 x2 y2 n x3 y3 x4 y4 m) (ald (x1 - x3) (y1 - y3) (x2 - x4) (y2 - y4))), .bool (gtog x1 y1 x2 y2 n x3 y3 x4 y4 m)]) ∧ Below w.heap.size w w' := by
  obtain ⟨q1, q2, q3, q4, q5, q6, q7⟩ := nadd
  have HG := Lib.hid (fun W => apGood_any x1 y1 x2 y2 n x3 y3 x4 y4 m W)
  rw [h] at HG
  rw [h]
  clear h
  all_goals
    go_enter Try.func17, Try.ntmps17
    go_wp2_with (first | (go_at_call 53; ((with_reducible refine (HG.out _).mono ?_); rintro e w1 ⟨rfl, hb1⟩; have hs1 := hb1.size; (try simp at hs1); (first | have hk4 := call_facts hl3 hb1 (by first | omega | (simp; done) | (simp; omega)) | skip); (first | have hk3 := call_facts hl2 hb1 (by first | omega | (simp; done) | (simp; omega)) | skip); (first | have hk2 := call_facts hl1 hb1 (by first | omega | (simp; done) | (simp; omega)) | skip); have hk1 := call_facts (fun b h => h) hb1 (Nat.le_refl _); (first | have hl4 := hk4.1 | skip); (first | have hl3 := hk3.1 | skip); (first | have hl2 := hk2.1 | skip); have hl1 := hk1.1)))
    first | exact bodyPost_ret (v := .tuple #[.int .i64 0, .int .i64 0, .bool false]) (by simp [results, Try.results17, go_sem, *]) rfl ⟨rfl, (by repeat (first | exact Below.refl _ _ | assumption | refine Below.drew ?_ | refine below_drewN ?_ _ | refine Below.alloc ?_ (by first | omega | (simp; done) | (simp; omega)) _ | refine Below.setCell ?_ (by first | omega | (simp; done) | (simp; omega)) _ | refine Below.trans ?_ (Below.mono (by assumption) (by first | omega | (simp; done) | (simp; omega)))))⟩

set_option maxHeartbeats 1000000 in
theorem specLeast_yes (x1 y1 x2 y2 n x3 y3 x4 y4 m : Int) (h : gtog x1 y1 x2 y2 n x3 y3 x4 y4 m = true) (w : World) :
    Calls Try.prog 17 #[.agg #[.int .i64 x1, .int .i64 y1, .int .i64 x2, .int .i64 y2, .int .i64 n], .agg #[.int .i64 x3, .int .i64 y3, .int .i64 x4, .int .i64 y4, .int .i64 m]] w fun e w' => e = .returned (.tuple #[.int .i64 (guardI (gtog x1 y1 x2 y2 n x3 y3 x4 y4 m) (aln (x1 - x3) (y1 - y3) (x2 - x4) (y2 - y4))), .int .i64 (guardI (gtog x1 y1 x2 y2 n x3 y3 x4 y4 m) (ald (x1 - x3) (y1 - y3) (x2 - x4) (y2 - y4))), .bool (gtog x1 y1 x2 y2 n x3 y3 x4 y4 m)]) ∧ Below w.heap.size w w' := by
  obtain ⟨q1, q2, q3, q4, q5, q6, q7⟩ := nadd
  have HG := Lib.hid (fun W => apGood_any x1 y1 x2 y2 n x3 y3 x4 y4 m W)
  rw [h] at HG
  obtain ⟨hw, ⟨n0, n1⟩, nm, v1, v2, v3, v4⟩ := gtog_way h
  have HL := Lib.hid (fun W => apLeast_any x1 y1 x2 y2 n x3 y3 x4 y4 m _ _ _ _ v1 v2 v3 v4 hw W)
  obtain ⟨P, hP⟩ : ∃ P, P = aln (x1 - x3) (y1 - y3) (x2 - x4) (y2 - y4) := ⟨_, rfl⟩
  obtain ⟨Q, hQ⟩ : ∃ Q, Q = ald (x1 - x3) (y1 - y3) (x2 - x4) (y2 - y4) := ⟨_, rfl⟩
  rw [← hP, ← hQ] at HL
  rw [h, ← hP, ← hQ]
  clear h hw n0 n1 nm v1 v2 v3 v4 hP hQ
  all_goals
    go_enter Try.func17, Try.ntmps17
    go_wp2_with (first | (go_at_call 53; ((with_reducible refine (HG.out _).mono ?_); rintro e w1 ⟨rfl, hb1⟩; have hs1 := hb1.size; (try simp at hs1); (first | have hk4 := call_facts hl3 hb1 (by first | omega | (simp; done) | (simp; omega)) | skip); (first | have hk3 := call_facts hl2 hb1 (by first | omega | (simp; done) | (simp; omega)) | skip); (first | have hk2 := call_facts hl1 hb1 (by first | omega | (simp; done) | (simp; omega)) | skip); have hk1 := call_facts (fun b h => h) hb1 (Nat.le_refl _); (first | have hl4 := hk4.1 | skip); (first | have hl3 := hk3.1 | skip); (first | have hl2 := hk2.1 | skip); have hl1 := hk1.1)) | (go_at_call 62; ((with_reducible refine (HL.out _).mono ?_); rintro e w1 ⟨rfl, hb1⟩; have hs1 := hb1.size; (try simp at hs1); (first | have hk4 := call_facts hl3 hb1 (by first | omega | (simp; done) | (simp; omega)) | skip); (first | have hk3 := call_facts hl2 hb1 (by first | omega | (simp; done) | (simp; omega)) | skip); (first | have hk2 := call_facts hl1 hb1 (by first | omega | (simp; done) | (simp; omega)) | skip); have hk1 := call_facts (fun b h => h) hb1 (Nat.le_refl _); (first | have hl4 := hk4.1 | skip); (first | have hl3 := hk3.1 | skip); (first | have hl2 := hk2.1 | skip); have hl1 := hk1.1)))
    first | exact bodyPost_ret (v := .tuple #[.int .i64 P, .int .i64 Q, .bool true]) (by simp [results, Try.results17, go_sem, *]) rfl ⟨rfl, (by repeat (first | exact Below.refl _ _ | assumption | refine Below.drew ?_ | refine below_drewN ?_ _ | refine Below.alloc ?_ (by first | omega | (simp; done) | (simp; omega)) _ | refine Below.setCell ?_ (by first | omega | (simp; done) | (simp; omega)) _ | refine Below.trans ?_ (Below.mono (by assumption) (by first | omega | (simp; done) | (simp; omega)))))⟩

theorem specLeast_any (x1 y1 x2 y2 n x3 y3 x4 y4 m : Int) (w : World) :
    Calls Try.prog 17 #[.agg #[.int .i64 x1, .int .i64 y1, .int .i64 x2, .int .i64 y2, .int .i64 n], .agg #[.int .i64 x3, .int .i64 y3, .int .i64 x4, .int .i64 y4, .int .i64 m]] w fun e w' => e = .returned (.tuple #[.int .i64 (guardI (gtog x1 y1 x2 y2 n x3 y3 x4 y4 m) (aln (x1 - x3) (y1 - y3) (x2 - x4) (y2 - y4))), .int .i64 (guardI (gtog x1 y1 x2 y2 n x3 y3 x4 y4 m) (ald (x1 - x3) (y1 - y3) (x2 - x4) (y2 - y4))), .bool (gtog x1 y1 x2 y2 n x3 y3 x4 y4 m)]) ∧ Below w.heap.size w w' := by
  cases h : gtog x1 y1 x2 y2 n x3 y3 x4 y4 m
  · rw [← h]; exact specLeast_no x1 y1 x2 y2 n x3 y3 x4 y4 m h w
  · rw [← h]; exact specLeast_yes x1 y1 x2 y2 n x3 y3 x4 y4 m h w

/-- The first time of the least square in lowest terms. -/
def ctn (p q r s n : Int) : Int := lowN (apT p q r s n).toNat (apD p q r s).toNat
def ctd (p q r s n : Int) : Int := lowD (apT p q r s n).toNat (apD p q r s).toNat
theorem time_in {p q r s n : Int} (h : wayOk p q r s) (n0 : 1 ≤ n) (n1 : n ≤ 64) (hi : apIn p q r s = true) : ∃ A B : Nat, IntKind.i64.wrap (apI p q r s * n) = (A : Int) ∧ apC p q r s = (B : Int) ∧ A ≤ 1000000000000000 ∧ B ≤ 1000000000000000 ∧ 0 < B ∧ ctn p q r s n = lowN A B ∧ ctd p q r s n = lowD A B := by
  have h1 := apT_bd h n0 n1
  have h2 := apC_bd h
  have h3 := apIn_iff.1 hi
  unfold apT at h1
  rw [hi, if_pos rfl] at h1
  refine ⟨(apI p q r s * n).toNat, (apC p q r s).toNat, ?_, by omega, by omega, by omega, by omega, ?_, ?_⟩
  · rw [IntWalk.i64_in _ (by omega)]; omega
  · unfold ctn apT apD; rw [hi, if_pos rfl, if_pos rfl]
  · unfold ctd apT apD; rw [hi, if_pos rfl, if_pos rfl]
theorem time_out {p q r s n : Int} (n0 : 1 ≤ n) (hi : apIn p q r s = false) : ctn p q r s n = (if apB r s < apB p q then n else 0) ∧ ctd p q r s n = 1 := by
  unfold ctn ctd apT apD
  rw [hi, if_neg Bool.false_ne_true, if_neg Bool.false_ne_true]
  obtain ⟨e1, e2⟩ := low_one (if apB r s < apB p q then n else 0).toNat
  show lowN _ 1 = _ ∧ lowD _ 1 = _
  rw [e1, e2]
  refine ⟨?_, rfl⟩
  split <;> omega

set_option maxHeartbeats 1000000 in
theorem specTime_no (x1 y1 x2 y2 n x3 y3 x4 y4 m : Int) (h : gtog x1 y1 x2 y2 n x3 y3 x4 y4 m = false) (w : World) :
    Calls Try.prog 19 #[.agg #[.int .i64 x1, .int .i64 y1, .int .i64 x2, .int .i64 y2, .int .i64 n], .agg #[.int .i64 x3, .int .i64 y3, .int .i64 x4, .int .i64 y4, .int .i64 m]] w fun e w' => e = .returned (.tuple #[.int .i64 (guardI (gtog x1 y1 x2 y2 n x3 y3 x4 y4 m) (ctn (x1 - x3) (y1 - y3) (x2 - x4) (y2 - y4) n)), .int .i64 (guardI (gtog x1 y1 x2 y2 n x3 y3 x4 y4 m) (ctd (x1 - x3) (y1 - y3) (x2 - x4) (y2 - y4) n)), .bool (gtog x1 y1 x2 y2 n x3 y3 x4 y4 m)]) ∧ Below w.heap.size w w' := by
  obtain ⟨q1, q2, q3, q4, q5, q6, q7⟩ := nadd
  have HG := Lib.hid (fun W => apGood_any x1 y1 x2 y2 n x3 y3 x4 y4 m W)
  rw [h] at HG
  rw [h]
  clear h
  all_goals
    go_enter Try.func19, Try.ntmps19
    go_wp2_with (first | (go_at_call 53; ((with_reducible refine (HG.out _).mono ?_); rintro e w1 ⟨rfl, hb1⟩; have hs1 := hb1.size; (try simp at hs1); (first | have hk4 := call_facts hl3 hb1 (by first | omega | (simp; done) | (simp; omega)) | skip); (first | have hk3 := call_facts hl2 hb1 (by first | omega | (simp; done) | (simp; omega)) | skip); (first | have hk2 := call_facts hl1 hb1 (by first | omega | (simp; done) | (simp; omega)) | skip); have hk1 := call_facts (fun b h => h) hb1 (Nat.le_refl _); (first | have hl4 := hk4.1 | skip); (first | have hl3 := hk3.1 | skip); (first | have hl2 := hk2.1 | skip); have hl1 := hk1.1)))
    first | exact bodyPost_ret (v := .tuple #[.int .i64 0, .int .i64 0, .bool false]) (by simp [results, Try.results19, go_sem, *]) rfl ⟨rfl, (by repeat (first | exact Below.refl _ _ | assumption | refine Below.drew ?_ | refine below_drewN ?_ _ | refine Below.alloc ?_ (by first | omega | (simp; done) | (simp; omega)) _ | refine Below.setCell ?_ (by first | omega | (simp; done) | (simp; omega)) _ | refine Below.trans ?_ (Below.mono (by assumption) (by first | omega | (simp; done) | (simp; omega)))))⟩

set_option maxHeartbeats 2000000 in
theorem specTime_in (x1 y1 x2 y2 n x3 y3 x4 y4 m : Int) (h : gtog x1 y1 x2 y2 n x3 y3 x4 y4 m = true) (hi : apIn (x1 - x3) (y1 - y3) (x2 - x4) (y2 - y4) = true) (w : World) :
    Calls Try.prog 19 #[.agg #[.int .i64 x1, .int .i64 y1, .int .i64 x2, .int .i64 y2, .int .i64 n], .agg #[.int .i64 x3, .int .i64 y3, .int .i64 x4, .int .i64 y4, .int .i64 m]] w fun e w' => e = .returned (.tuple #[.int .i64 (guardI (gtog x1 y1 x2 y2 n x3 y3 x4 y4 m) (ctn (x1 - x3) (y1 - y3) (x2 - x4) (y2 - y4) n)), .int .i64 (guardI (gtog x1 y1 x2 y2 n x3 y3 x4 y4 m) (ctd (x1 - x3) (y1 - y3) (x2 - x4) (y2 - y4) n)), .bool (gtog x1 y1 x2 y2 n x3 y3 x4 y4 m)]) ∧ Below w.heap.size w w' := by
  obtain ⟨q1, q2, q3, q4, q5, q6, q7⟩ := nadd
  have HG := Lib.hid (fun W => apGood_any x1 y1 x2 y2 n x3 y3 x4 y4 m W)
  rw [h] at HG
  obtain ⟨hw, ⟨n0, n1⟩, nm, v1, v2, v3, v4⟩ := gtog_way h
  obtain ⟨p, hp⟩ : ∃ z, z = x1 - x3 := ⟨_, rfl⟩
  obtain ⟨q, hq⟩ : ∃ z, z = y1 - y3 := ⟨_, rfl⟩
  obtain ⟨r, hr⟩ : ∃ z, z = x2 - x4 := ⟨_, rfl⟩
  obtain ⟨s, hs⟩ : ∃ z, z = y2 - y4 := ⟨_, rfl⟩
  replace v1 := v1.trans hp.symm
  replace v2 := v2.trans hq.symm
  replace v3 := v3.trans hr.symm
  replace v4 := v4.trans hs.symm
  rw [← hp, ← hq, ← hr, ← hs] at hi hw
  rw [h, ← hp, ← hq, ← hr, ← hs]
  clear hp hq hr hs h nm
  have HI := Lib.hid (fun W => apInner_any x1 y1 x2 y2 n x3 y3 x4 y4 m p q r s v1 v2 v3 v4 hw W)
  have HE := Lib.hid (fun W => apEnds_any x1 y1 x2 y2 n x3 y3 x4 y4 m p q r s v1 v2 v3 v4 W)
  rw [hi] at HI
  obtain ⟨A, B, u1, u2, u3, u4, u5, e1, e2⟩ := time_in hw n0 n1 hi
  rw [e1, e2]
  rw [u2] at HI
  have HP := Lib.hid (fun W => mvPartW_any A B u3 u4 u5 W)
  obtain ⟨P, hP⟩ : ∃ P, P = lowN A B := ⟨_, rfl⟩
  obtain ⟨Q, hQ⟩ : ∃ Q, Q = lowD A B := ⟨_, rfl⟩
  rw [← hP, ← hQ] at HP
  rw [← hP, ← hQ]
  obtain ⟨I, hI⟩ : ∃ I, I = apI p q r s := ⟨_, rfl⟩
  rw [← hI] at HI u1
  simp only [guardI_facts.1] at HI
  have z0 : (0 : Int) < (B : Int) := by omega
  clear hw hi n0 n1 u2 u3 u4 u5 e1 e2 hP hQ hI v1 v2 v3 v4
  all_goals
    go_enter Try.func19, Try.ntmps19
    go_wp2_with (first | (go_at_call 53; ((with_reducible refine (HG.out _).mono ?_); rintro e w1 ⟨rfl, hb1⟩; have hs1 := hb1.size; (try simp at hs1); (first | have hk4 := call_facts hl3 hb1 (by first | omega | (simp; done) | (simp; omega)) | skip); (first | have hk3 := call_facts hl2 hb1 (by first | omega | (simp; done) | (simp; omega)) | skip); (first | have hk2 := call_facts hl1 hb1 (by first | omega | (simp; done) | (simp; omega)) | skip); have hk1 := call_facts (fun b h => h) hb1 (Nat.le_refl _); (first | have hl4 := hk4.1 | skip); (first | have hl3 := hk3.1 | skip); (first | have hl2 := hk2.1 | skip); have hl1 := hk1.1)) | (go_at_call 64; ((with_reducible refine (HI.out _).mono ?_); rintro e w1 ⟨rfl, hb1⟩; have hs1 := hb1.size; (try simp at hs1); (first | have hk4 := call_facts hl3 hb1 (by first | omega | (simp; done) | (simp; omega)) | skip); (first | have hk3 := call_facts hl2 hb1 (by first | omega | (simp; done) | (simp; omega)) | skip); (first | have hk2 := call_facts hl1 hb1 (by first | omega | (simp; done) | (simp; omega)) | skip); have hk1 := call_facts (fun b h => h) hb1 (Nat.le_refl _); (first | have hl4 := hk4.1 | skip); (first | have hl3 := hk3.1 | skip); (first | have hl2 := hk2.1 | skip); have hl1 := hk1.1)) | (go_at_call 56; ((with_reducible refine (HP.out _).mono ?_); rintro e w1 ⟨rfl, hb1⟩; have hs1 := hb1.size; (try simp at hs1); (first | have hk4 := call_facts hl3 hb1 (by first | omega | (simp; done) | (simp; omega)) | skip); (first | have hk3 := call_facts hl2 hb1 (by first | omega | (simp; done) | (simp; omega)) | skip); (first | have hk2 := call_facts hl1 hb1 (by first | omega | (simp; done) | (simp; omega)) | skip); have hk1 := call_facts (fun b h => h) hb1 (Nat.le_refl _); (first | have hl4 := hk4.1 | skip); (first | have hl3 := hk3.1 | skip); (first | have hl2 := hk2.1 | skip); have hl1 := hk1.1)))
    first | exact bodyPost_ret (v := .tuple #[.int .i64 P, .int .i64 Q, .bool true]) (by simp [results, Try.results19, go_sem, *]) rfl ⟨rfl, (by repeat (first | exact Below.refl _ _ | assumption | refine Below.drew ?_ | refine below_drewN ?_ _ | refine Below.alloc ?_ (by first | omega | (simp; done) | (simp; omega)) _ | refine Below.setCell ?_ (by first | omega | (simp; done) | (simp; omega)) _ | refine Below.trans ?_ (Below.mono (by assumption) (by first | omega | (simp; done) | (simp; omega)))))⟩

set_option maxHeartbeats 2000000 in
theorem specTime_end (x1 y1 x2 y2 n x3 y3 x4 y4 m : Int) (h : gtog x1 y1 x2 y2 n x3 y3 x4 y4 m = true) (hi : apIn (x1 - x3) (y1 - y3) (x2 - x4) (y2 - y4) = false) (he : apB (x2 - x4) (y2 - y4) < apB (x1 - x3) (y1 - y3)) (w : World) :
    Calls Try.prog 19 #[.agg #[.int .i64 x1, .int .i64 y1, .int .i64 x2, .int .i64 y2, .int .i64 n], .agg #[.int .i64 x3, .int .i64 y3, .int .i64 x4, .int .i64 y4, .int .i64 m]] w fun e w' => e = .returned (.tuple #[.int .i64 (guardI (gtog x1 y1 x2 y2 n x3 y3 x4 y4 m) (ctn (x1 - x3) (y1 - y3) (x2 - x4) (y2 - y4) n)), .int .i64 (guardI (gtog x1 y1 x2 y2 n x3 y3 x4 y4 m) (ctd (x1 - x3) (y1 - y3) (x2 - x4) (y2 - y4) n)), .bool (gtog x1 y1 x2 y2 n x3 y3 x4 y4 m)]) ∧ Below w.heap.size w w' := by
  obtain ⟨q1, q2, q3, q4, q5, q6, q7⟩ := nadd
  have HG := Lib.hid (fun W => apGood_any x1 y1 x2 y2 n x3 y3 x4 y4 m W)
  rw [h] at HG
  obtain ⟨hw, ⟨n0, n1⟩, nm, v1, v2, v3, v4⟩ := gtog_way h
  obtain ⟨p, hp⟩ : ∃ z, z = x1 - x3 := ⟨_, rfl⟩
  obtain ⟨q, hq⟩ : ∃ z, z = y1 - y3 := ⟨_, rfl⟩
  obtain ⟨r, hr⟩ : ∃ z, z = x2 - x4 := ⟨_, rfl⟩
  obtain ⟨s, hs⟩ : ∃ z, z = y2 - y4 := ⟨_, rfl⟩
  replace v1 := v1.trans hp.symm
  replace v2 := v2.trans hq.symm
  replace v3 := v3.trans hr.symm
  replace v4 := v4.trans hs.symm
  rw [← hp, ← hq, ← hr, ← hs] at hi hw he
  rw [h, ← hp, ← hq, ← hr, ← hs]
  clear hp hq hr hs h nm
  have HI := Lib.hid (fun W => apInner_any x1 y1 x2 y2 n x3 y3 x4 y4 m p q r s v1 v2 v3 v4 hw W)
  have HE := Lib.hid (fun W => apEnds_any x1 y1 x2 y2 n x3 y3 x4 y4 m p q r s v1 v2 v3 v4 W)
  rw [hi] at HI
  simp only [guardI_facts.2] at HI
  obtain ⟨e1, e2⟩ := time_out n0 hi
  rw [e1, e2, if_pos he]
  obtain ⟨a, b, B, c, d, E, hB, hE, u1, u2, u3, u4, u5, u6⟩ := ends_facts hw
  rw [← hB, ← hE] at he
  clear hw hi e1 e2 hB hE n0 n1 v1 v2 v3 v4
  all_goals
    go_enter Try.func19, Try.ntmps19
    go_wp2_with (first | (go_at_call 53; ((with_reducible refine (HG.out _).mono ?_); rintro e w1 ⟨rfl, hb1⟩; have hs1 := hb1.size; (try simp at hs1); (first | have hk4 := call_facts hl3 hb1 (by first | omega | (simp; done) | (simp; omega)) | skip); (first | have hk3 := call_facts hl2 hb1 (by first | omega | (simp; done) | (simp; omega)) | skip); (first | have hk2 := call_facts hl1 hb1 (by first | omega | (simp; done) | (simp; omega)) | skip); have hk1 := call_facts (fun b h => h) hb1 (Nat.le_refl _); (first | have hl4 := hk4.1 | skip); (first | have hl3 := hk3.1 | skip); (first | have hl2 := hk2.1 | skip); have hl1 := hk1.1)) | (go_at_call 64; ((with_reducible refine (HI.out _).mono ?_); rintro e w1 ⟨rfl, hb1⟩; have hs1 := hb1.size; (try simp at hs1); (first | have hk4 := call_facts hl3 hb1 (by first | omega | (simp; done) | (simp; omega)) | skip); (first | have hk3 := call_facts hl2 hb1 (by first | omega | (simp; done) | (simp; omega)) | skip); (first | have hk2 := call_facts hl1 hb1 (by first | omega | (simp; done) | (simp; omega)) | skip); have hk1 := call_facts (fun b h => h) hb1 (Nat.le_refl _); (first | have hl4 := hk4.1 | skip); (first | have hl3 := hk3.1 | skip); (first | have hl2 := hk2.1 | skip); have hl1 := hk1.1)) | (go_at_call 65; ((with_reducible refine (HE.out _).mono ?_); rintro e w1 ⟨rfl, hb1⟩; have hs1 := hb1.size; (try simp at hs1); (first | have hk4 := call_facts hl3 hb1 (by first | omega | (simp; done) | (simp; omega)) | skip); (first | have hk3 := call_facts hl2 hb1 (by first | omega | (simp; done) | (simp; omega)) | skip); (first | have hk2 := call_facts hl1 hb1 (by first | omega | (simp; done) | (simp; omega)) | skip); have hk1 := call_facts (fun b h => h) hb1 (Nat.le_refl _); (first | have hl4 := hk4.1 | skip); (first | have hl3 := hk3.1 | skip); (first | have hl2 := hk2.1 | skip); have hl1 := hk1.1)))
    first | exact bodyPost_ret (v := .tuple #[.int .i64 n, .int .i64 1, .bool true]) (by simp [results, Try.results19, go_sem, *]) rfl ⟨rfl, (by repeat (first | exact Below.refl _ _ | assumption | refine Below.drew ?_ | refine below_drewN ?_ _ | refine Below.alloc ?_ (by first | omega | (simp; done) | (simp; omega)) _ | refine Below.setCell ?_ (by first | omega | (simp; done) | (simp; omega)) _ | refine Below.trans ?_ (Below.mono (by assumption) (by first | omega | (simp; done) | (simp; omega)))))⟩

set_option maxHeartbeats 2000000 in
theorem specTime_begin (x1 y1 x2 y2 n x3 y3 x4 y4 m : Int) (h : gtog x1 y1 x2 y2 n x3 y3 x4 y4 m = true) (hi : apIn (x1 - x3) (y1 - y3) (x2 - x4) (y2 - y4) = false) (he : ¬ apB (x2 - x4) (y2 - y4) < apB (x1 - x3) (y1 - y3)) (w : World) :
    Calls Try.prog 19 #[.agg #[.int .i64 x1, .int .i64 y1, .int .i64 x2, .int .i64 y2, .int .i64 n], .agg #[.int .i64 x3, .int .i64 y3, .int .i64 x4, .int .i64 y4, .int .i64 m]] w fun e w' => e = .returned (.tuple #[.int .i64 (guardI (gtog x1 y1 x2 y2 n x3 y3 x4 y4 m) (ctn (x1 - x3) (y1 - y3) (x2 - x4) (y2 - y4) n)), .int .i64 (guardI (gtog x1 y1 x2 y2 n x3 y3 x4 y4 m) (ctd (x1 - x3) (y1 - y3) (x2 - x4) (y2 - y4) n)), .bool (gtog x1 y1 x2 y2 n x3 y3 x4 y4 m)]) ∧ Below w.heap.size w w' := by
  obtain ⟨q1, q2, q3, q4, q5, q6, q7⟩ := nadd
  have HG := Lib.hid (fun W => apGood_any x1 y1 x2 y2 n x3 y3 x4 y4 m W)
  rw [h] at HG
  obtain ⟨hw, ⟨n0, n1⟩, nm, v1, v2, v3, v4⟩ := gtog_way h
  obtain ⟨p, hp⟩ : ∃ z, z = x1 - x3 := ⟨_, rfl⟩
  obtain ⟨q, hq⟩ : ∃ z, z = y1 - y3 := ⟨_, rfl⟩
  obtain ⟨r, hr⟩ : ∃ z, z = x2 - x4 := ⟨_, rfl⟩
  obtain ⟨s, hs⟩ : ∃ z, z = y2 - y4 := ⟨_, rfl⟩
  replace v1 := v1.trans hp.symm
  replace v2 := v2.trans hq.symm
  replace v3 := v3.trans hr.symm
  replace v4 := v4.trans hs.symm
  rw [← hp, ← hq, ← hr, ← hs] at hi hw he
  rw [h, ← hp, ← hq, ← hr, ← hs]
  clear hp hq hr hs h nm
  have HI := Lib.hid (fun W => apInner_any x1 y1 x2 y2 n x3 y3 x4 y4 m p q r s v1 v2 v3 v4 hw W)
  have HE := Lib.hid (fun W => apEnds_any x1 y1 x2 y2 n x3 y3 x4 y4 m p q r s v1 v2 v3 v4 W)
  rw [hi] at HI
  simp only [guardI_facts.2] at HI
  obtain ⟨e1, e2⟩ := time_out n0 hi
  rw [e1, e2, if_neg he]
  obtain ⟨a, b, B, c, d, E, hB, hE, u1, u2, u3, u4, u5, u6⟩ := ends_facts hw
  rw [← hB, ← hE] at he
  clear hw hi e1 e2 hB hE n0 n1 v1 v2 v3 v4
  all_goals
    go_enter Try.func19, Try.ntmps19
    go_wp2_with (first | (go_at_call 53; ((with_reducible refine (HG.out _).mono ?_); rintro e w1 ⟨rfl, hb1⟩; have hs1 := hb1.size; (try simp at hs1); (first | have hk4 := call_facts hl3 hb1 (by first | omega | (simp; done) | (simp; omega)) | skip); (first | have hk3 := call_facts hl2 hb1 (by first | omega | (simp; done) | (simp; omega)) | skip); (first | have hk2 := call_facts hl1 hb1 (by first | omega | (simp; done) | (simp; omega)) | skip); have hk1 := call_facts (fun b h => h) hb1 (Nat.le_refl _); (first | have hl4 := hk4.1 | skip); (first | have hl3 := hk3.1 | skip); (first | have hl2 := hk2.1 | skip); have hl1 := hk1.1)) | (go_at_call 64; ((with_reducible refine (HI.out _).mono ?_); rintro e w1 ⟨rfl, hb1⟩; have hs1 := hb1.size; (try simp at hs1); (first | have hk4 := call_facts hl3 hb1 (by first | omega | (simp; done) | (simp; omega)) | skip); (first | have hk3 := call_facts hl2 hb1 (by first | omega | (simp; done) | (simp; omega)) | skip); (first | have hk2 := call_facts hl1 hb1 (by first | omega | (simp; done) | (simp; omega)) | skip); have hk1 := call_facts (fun b h => h) hb1 (Nat.le_refl _); (first | have hl4 := hk4.1 | skip); (first | have hl3 := hk3.1 | skip); (first | have hl2 := hk2.1 | skip); have hl1 := hk1.1)) | (go_at_call 65; ((with_reducible refine (HE.out _).mono ?_); rintro e w1 ⟨rfl, hb1⟩; have hs1 := hb1.size; (try simp at hs1); (first | have hk4 := call_facts hl3 hb1 (by first | omega | (simp; done) | (simp; omega)) | skip); (first | have hk3 := call_facts hl2 hb1 (by first | omega | (simp; done) | (simp; omega)) | skip); (first | have hk2 := call_facts hl1 hb1 (by first | omega | (simp; done) | (simp; omega)) | skip); have hk1 := call_facts (fun b h => h) hb1 (Nat.le_refl _); (first | have hl4 := hk4.1 | skip); (first | have hl3 := hk3.1 | skip); (first | have hl2 := hk2.1 | skip); have hl1 := hk1.1)))
    first | exact bodyPost_ret (v := .tuple #[.int .i64 0, .int .i64 1, .bool true]) (by simp [results, Try.results19, go_sem, *]) rfl ⟨rfl, (by repeat (first | exact Below.refl _ _ | assumption | refine Below.drew ?_ | refine below_drewN ?_ _ | refine Below.alloc ?_ (by first | omega | (simp; done) | (simp; omega)) _ | refine Below.setCell ?_ (by first | omega | (simp; done) | (simp; omega)) _ | refine Below.trans ?_ (Below.mono (by assumption) (by first | omega | (simp; done) | (simp; omega)))))⟩

theorem specTime_any (x1 y1 x2 y2 n x3 y3 x4 y4 m : Int) (w : World) :
    Calls Try.prog 19 #[.agg #[.int .i64 x1, .int .i64 y1, .int .i64 x2, .int .i64 y2, .int .i64 n], .agg #[.int .i64 x3, .int .i64 y3, .int .i64 x4, .int .i64 y4, .int .i64 m]] w fun e w' => e = .returned (.tuple #[.int .i64 (guardI (gtog x1 y1 x2 y2 n x3 y3 x4 y4 m) (ctn (x1 - x3) (y1 - y3) (x2 - x4) (y2 - y4) n)), .int .i64 (guardI (gtog x1 y1 x2 y2 n x3 y3 x4 y4 m) (ctd (x1 - x3) (y1 - y3) (x2 - x4) (y2 - y4) n)), .bool (gtog x1 y1 x2 y2 n x3 y3 x4 y4 m)]) ∧ Below w.heap.size w w' := by
  cases h : gtog x1 y1 x2 y2 n x3 y3 x4 y4 m
  · rw [← h]; exact specTime_no x1 y1 x2 y2 n x3 y3 x4 y4 m h w
  · rw [← h]
    cases hi : apIn (x1 - x3) (y1 - y3) (x2 - x4) (y2 - y4)
    · by_cases he : apB (x2 - x4) (y2 - y4) < apB (x1 - x3) (y1 - y3)
      · exact specTime_end x1 y1 x2 y2 n x3 y3 x4 y4 m h hi he w
      · exact specTime_begin x1 y1 x2 y2 n x3 y3 x4 y4 m h hi he w
    · exact specTime_in x1 y1 x2 y2 n x3 y3 x4 y4 m h hi w

/-- Do two moves keep at least the distance? -/
def apSt (p q r s k : Int) : Bool := !fLt (apN p q r s) (apD p q r s) (k * k) 1
theorem low_bd {p q r s : Int} (h : wayOk p q r s) : (0 ≤ aln p q r s ∧ aln p q r s ≤ 2959500902400) ∧ 0 < ald p q r s ∧ ald p q r s ≤ 8359936 ∧ ∃ k : Int, 0 < k ∧ apN p q r s = aln p q r s * k ∧ apD p q r s = ald p q r s * k := by
  have h1 := apN_bd h
  obtain ⟨k, k0, e1, e2, l1, l2, l3, l4⟩ := low_facts (apN p q r s).toNat (apD p q r s).toNat (by omega)
  unfold aln ald
  refine ⟨by omega, l2, by omega, (k : Int), by omega, by omega, by omega⟩
theorem apSt_eq {p q r s k : Int} (h : wayOk p q r s) : apSt p q r s k = decide (k * k * ald p q r s ≤ aln p q r s) := by
  obtain ⟨_, h2, _, c, c0, e1, e2⟩ := low_bd h
  unfold apSt
  rw [e1, e2]
  have e3 := fLt_mul (a := aln p q r s) (b := ald p q r s) (c := k * k) (d := 1) (k := c) (m := 1) c0 (by omega)
  rw [Int.mul_one, Int.mul_one] at e3
  rw [e3]
  unfold fLt
  rw [Int.mul_one, ← decide_not]
  exact decide_eq_decide.2 (by omega)
theorem stay_facts {p q r s k : Int} (h : wayOk p q r s) (k0 : 0 ≤ k) (k1 : k ≤ 80) : ∃ a b : Int, IntKind.i64.wrap (k * k) = a ∧ IntKind.i64.wrap (a * ald p q r s) = b ∧ apSt p q r s k = decide (b ≤ aln p q r s) := by
  obtain ⟨_, h2, h3, _⟩ := low_bd h
  have h4 := mul_bd (a := k) (b := k) (m := 80) (n := 80) (by omega) (by omega) (by omega) (by omega)
  have h5 := mul_bd (a := k * k) (b := ald p q r s) (m := 6400) (n := 8359936) (by omega) (by omega) (by omega) (by omega)
  exact ⟨k * k, k * k * ald p q r s, IntWalk.i64_in _ (by omega), IntWalk.i64_in _ (by omega), apSt_eq h⟩

set_option maxHeartbeats 1000000 in
theorem apStay_any (x1 y1 x2 y2 n x3 y3 x4 y4 m p q r s k : Int) (v1 : IntKind.i64.wrap (x1 - x3) = p) (v2 : IntKind.i64.wrap (y1 - y3) = q) (v3 : IntKind.i64.wrap (x2 - x4) = r) (v4 : IntKind.i64.wrap (y2 - y4) = s) (h : wayOk p q r s) (k0 : 0 ≤ k) (k1 : k ≤ 80) (w : World) :
    Calls Try.prog 68 #[.agg #[.int .i64 x1, .int .i64 y1, .int .i64 x2, .int .i64 y2, .int .i64 n], .agg #[.int .i64 x3, .int .i64 y3, .int .i64 x4, .int .i64 y4, .int .i64 m], .int .i64 k] w fun e w' => e = .returned (.bool (apSt p q r s k)) ∧ Below w.heap.size w w' := by
  obtain ⟨q1, q2, q3, q4, q5, q6, q7⟩ := nadd
  have HL := Lib.hid (fun W => apLeast_any x1 y1 x2 y2 n x3 y3 x4 y4 m p q r s v1 v2 v3 v4 h W)
  obtain ⟨a, b, u1, u2, e0⟩ := stay_facts h k0 k1
  rw [e0]
  obtain ⟨P, hP⟩ : ∃ P, P = aln p q r s := ⟨_, rfl⟩
  obtain ⟨Q, hQ⟩ : ∃ Q, Q = ald p q r s := ⟨_, rfl⟩
  rw [← hP, ← hQ] at HL
  rw [← hP]
  rw [← hQ] at u2
  clear hP hQ e0 h v1 v2 v3 v4
  obtain ⟨t, ht⟩ : ∃ t, decide (b ≤ P) = t := ⟨_, rfl⟩
  rw [ht]
  all_goals
    go_enter Try.func68, Try.ntmps68
    go_wp2_with (first | (go_at_call 62; ((with_reducible refine (HL.out _).mono ?_); rintro e w1 ⟨rfl, hb1⟩; have hs1 := hb1.size; (try simp at hs1); (first | have hk4 := call_facts hl3 hb1 (by first | omega | (simp; done) | (simp; omega)) | skip); (first | have hk3 := call_facts hl2 hb1 (by first | omega | (simp; done) | (simp; omega)) | skip); (first | have hk2 := call_facts hl1 hb1 (by first | omega | (simp; done) | (simp; omega)) | skip); have hk1 := call_facts (fun b h => h) hb1 (Nat.le_refl _); (first | have hl4 := hk4.1 | skip); (first | have hl3 := hk3.1 | skip); (first | have hl2 := hk2.1 | skip); have hl1 := hk1.1)))
    first | exact bodyPost_ret (v := .bool t) (by simp [results, Try.results68, go_sem, *]) rfl ⟨rfl, (by repeat (first | exact Below.refl _ _ | assumption | refine Below.drew ?_ | refine below_drewN ?_ _ | refine Below.alloc ?_ (by first | omega | (simp; done) | (simp; omega)) _ | refine Below.setCell ?_ (by first | omega | (simp; done) | (simp; omega)) _ | refine Below.trans ?_ (Below.mono (by assumption) (by first | omega | (simp; done) | (simp; omega)))))⟩

set_option maxHeartbeats 1000000 in
theorem specStay_no (x1 y1 x2 y2 n x3 y3 x4 y4 m k : Int) (h : gtog x1 y1 x2 y2 n x3 y3 x4 y4 m = false) (w : World) :
    Calls Try.prog 21 #[.agg #[.int .i64 x1, .int .i64 y1, .int .i64 x2, .int .i64 y2, .int .i64 n], .agg #[.int .i64 x3, .int .i64 y3, .int .i64 x4, .int .i64 y4, .int .i64 m], .int .i64 k] w fun e w' => e = .returned (.tuple #[.bool ((gtog x1 y1 x2 y2 n x3 y3 x4 y4 m && inB 0 k 80) && apSt (x1 - x3) (y1 - y3) (x2 - x4) (y2 - y4) k), .bool (gtog x1 y1 x2 y2 n x3 y3 x4 y4 m && inB 0 k 80)]) ∧ Below w.heap.size w w' := by
  obtain ⟨q1, q2, q3, q4, q5, q6, q7⟩ := nadd
  have HG := Lib.hid (fun W => apGood_any x1 y1 x2 y2 n x3 y3 x4 y4 m W)
  rw [h] at HG
  rw [h]
  clear h
  all_goals
    go_enter Try.func21, Try.ntmps21
    go_wp2_with (first | (go_at_call 53; ((with_reducible refine (HG.out _).mono ?_); rintro e w1 ⟨rfl, hb1⟩; have hs1 := hb1.size; (try simp at hs1); (first | have hk4 := call_facts hl3 hb1 (by first | omega | (simp; done) | (simp; omega)) | skip); (first | have hk3 := call_facts hl2 hb1 (by first | omega | (simp; done) | (simp; omega)) | skip); (first | have hk2 := call_facts hl1 hb1 (by first | omega | (simp; done) | (simp; omega)) | skip); have hk1 := call_facts (fun b h => h) hb1 (Nat.le_refl _); (first | have hl4 := hk4.1 | skip); (first | have hl3 := hk3.1 | skip); (first | have hl2 := hk2.1 | skip); have hl1 := hk1.1)) | (go_at_call 67; (refine (apDistance_any _).mono ?_; rintro e w' ⟨rfl, rfl⟩)))
    first | exact bodyPost_ret (v := .tuple #[.bool false, .bool false]) (by simp [results, Try.results21, go_sem, *]) rfl ⟨rfl, (by repeat (first | exact Below.refl _ _ | assumption | refine Below.drew ?_ | refine below_drewN ?_ _ | refine Below.alloc ?_ (by first | omega | (simp; done) | (simp; omega)) _ | refine Below.setCell ?_ (by first | omega | (simp; done) | (simp; omega)) _ | refine Below.trans ?_ (Below.mono (by assumption) (by first | omega | (simp; done) | (simp; omega)))))⟩

set_option maxHeartbeats 1000000 in
theorem specStay_far (x1 y1 x2 y2 n x3 y3 x4 y4 m k : Int) (h : gtog x1 y1 x2 y2 n x3 y3 x4 y4 m = true) (h2 : inB 0 k 80 = false) (w : World) :
    Calls Try.prog 21 #[.agg #[.int .i64 x1, .int .i64 y1, .int .i64 x2, .int .i64 y2, .int .i64 n], .agg #[.int .i64 x3, .int .i64 y3, .int .i64 x4, .int .i64 y4, .int .i64 m], .int .i64 k] w fun e w' => e = .returned (.tuple #[.bool ((gtog x1 y1 x2 y2 n x3 y3 x4 y4 m && inB 0 k 80) && apSt (x1 - x3) (y1 - y3) (x2 - x4) (y2 - y4) k), .bool (gtog x1 y1 x2 y2 n x3 y3 x4 y4 m && inB 0 k 80)]) ∧ Below w.heap.size w w' := by
  obtain ⟨q1, q2, q3, q4, q5, q6, q7⟩ := nadd
  have HG := Lib.hid (fun W => apGood_any x1 y1 x2 y2 n x3 y3 x4 y4 m W)
  rw [h] at HG
  rw [h, h2]
  have HD := Lib.hid (fun W => apDistance_any k W)
  rw [h2] at HD
  clear h h2
  all_goals
    go_enter Try.func21, Try.ntmps21
    go_wp2_with (first | (go_at_call 53; ((with_reducible refine (HG.out _).mono ?_); rintro e w1 ⟨rfl, hb1⟩; have hs1 := hb1.size; (try simp at hs1); (first | have hk4 := call_facts hl3 hb1 (by first | omega | (simp; done) | (simp; omega)) | skip); (first | have hk3 := call_facts hl2 hb1 (by first | omega | (simp; done) | (simp; omega)) | skip); (first | have hk2 := call_facts hl1 hb1 (by first | omega | (simp; done) | (simp; omega)) | skip); have hk1 := call_facts (fun b h => h) hb1 (Nat.le_refl _); (first | have hl4 := hk4.1 | skip); (first | have hl3 := hk3.1 | skip); (first | have hl2 := hk2.1 | skip); have hl1 := hk1.1)) | (go_at_call 67; ((with_reducible refine (HD.out _).mono ?_); rintro e w' ⟨rfl, rfl⟩)))
    first | exact bodyPost_ret (v := .tuple #[.bool false, .bool false]) (by simp [results, Try.results21, go_sem, *]) rfl ⟨rfl, (by repeat (first | exact Below.refl _ _ | assumption | refine Below.drew ?_ | refine below_drewN ?_ _ | refine Below.alloc ?_ (by first | omega | (simp; done) | (simp; omega)) _ | refine Below.setCell ?_ (by first | omega | (simp; done) | (simp; omega)) _ | refine Below.trans ?_ (Below.mono (by assumption) (by first | omega | (simp; done) | (simp; omega)))))⟩

set_option maxHeartbeats 1000000 in
theorem specStay_yes (x1 y1 x2 y2 n x3 y3 x4 y4 m k : Int) (h : gtog x1 y1 x2 y2 n x3 y3 x4 y4 m = true) (h2 : inB 0 k 80 = true) (w : World) :
    Calls Try.prog 21 #[.agg #[.int .i64 x1, .int .i64 y1, .int .i64 x2, .int .i64 y2, .int .i64 n], .agg #[.int .i64 x3, .int .i64 y3, .int .i64 x4, .int .i64 y4, .int .i64 m], .int .i64 k] w fun e w' => e = .returned (.tuple #[.bool ((gtog x1 y1 x2 y2 n x3 y3 x4 y4 m && inB 0 k 80) && apSt (x1 - x3) (y1 - y3) (x2 - x4) (y2 - y4) k), .bool (gtog x1 y1 x2 y2 n x3 y3 x4 y4 m && inB 0 k 80)]) ∧ Below w.heap.size w w' := by
  obtain ⟨q1, q2, q3, q4, q5, q6, q7⟩ := nadd
  have HG := Lib.hid (fun W => apGood_any x1 y1 x2 y2 n x3 y3 x4 y4 m W)
  rw [h] at HG
  have HD := Lib.hid (fun W => apDistance_any k W)
  rw [h2] at HD
  obtain ⟨k0, k1⟩ := inB_iff.1 h2
  obtain ⟨hw, ⟨n0, n1⟩, nm, v1, v2, v3, v4⟩ := gtog_way h
  have HS := Lib.hid (fun W => apStay_any x1 y1 x2 y2 n x3 y3 x4 y4 m _ _ _ _ k v1 v2 v3 v4 hw k0 k1 W)
  obtain ⟨S, hS⟩ : ∃ S, S = apSt (x1 - x3) (y1 - y3) (x2 - x4) (y2 - y4) k := ⟨_, rfl⟩
  rw [← hS] at HS
  rw [h, h2, ← hS]
  clear h h2 hw n0 n1 nm v1 v2 v3 v4 hS k0 k1
  all_goals
    go_enter Try.func21, Try.ntmps21
    go_wp2_with (first | (go_at_call 53; ((with_reducible refine (HG.out _).mono ?_); rintro e w1 ⟨rfl, hb1⟩; have hs1 := hb1.size; (try simp at hs1); (first | have hk4 := call_facts hl3 hb1 (by first | omega | (simp; done) | (simp; omega)) | skip); (first | have hk3 := call_facts hl2 hb1 (by first | omega | (simp; done) | (simp; omega)) | skip); (first | have hk2 := call_facts hl1 hb1 (by first | omega | (simp; done) | (simp; omega)) | skip); have hk1 := call_facts (fun b h => h) hb1 (Nat.le_refl _); (first | have hl4 := hk4.1 | skip); (first | have hl3 := hk3.1 | skip); (first | have hl2 := hk2.1 | skip); have hl1 := hk1.1)) | (go_at_call 67; ((with_reducible refine (HD.out _).mono ?_); rintro e w' ⟨rfl, rfl⟩)) | (go_at_call 68; ((with_reducible refine (HS.out _).mono ?_); rintro e w1 ⟨rfl, hb1⟩; have hs1 := hb1.size; (try simp at hs1); (first | have hk4 := call_facts hl3 hb1 (by first | omega | (simp; done) | (simp; omega)) | skip); (first | have hk3 := call_facts hl2 hb1 (by first | omega | (simp; done) | (simp; omega)) | skip); (first | have hk2 := call_facts hl1 hb1 (by first | omega | (simp; done) | (simp; omega)) | skip); have hk1 := call_facts (fun b h => h) hb1 (Nat.le_refl _); (first | have hl4 := hk4.1 | skip); (first | have hl3 := hk3.1 | skip); (first | have hl2 := hk2.1 | skip); have hl1 := hk1.1)))
    first | exact bodyPost_ret (v := .tuple #[.bool S, .bool true]) (by simp [results, Try.results21, go_sem, *]) rfl ⟨rfl, (by repeat (first | exact Below.refl _ _ | assumption | refine Below.drew ?_ | refine below_drewN ?_ _ | refine Below.alloc ?_ (by first | omega | (simp; done) | (simp; omega)) _ | refine Below.setCell ?_ (by first | omega | (simp; done) | (simp; omega)) _ | refine Below.trans ?_ (Below.mono (by assumption) (by first | omega | (simp; done) | (simp; omega)))))⟩

theorem specStay_any (x1 y1 x2 y2 n x3 y3 x4 y4 m k : Int) (w : World) :
    Calls Try.prog 21 #[.agg #[.int .i64 x1, .int .i64 y1, .int .i64 x2, .int .i64 y2, .int .i64 n], .agg #[.int .i64 x3, .int .i64 y3, .int .i64 x4, .int .i64 y4, .int .i64 m], .int .i64 k] w fun e w' => e = .returned (.tuple #[.bool ((gtog x1 y1 x2 y2 n x3 y3 x4 y4 m && inB 0 k 80) && apSt (x1 - x3) (y1 - y3) (x2 - x4) (y2 - y4) k), .bool (gtog x1 y1 x2 y2 n x3 y3 x4 y4 m && inB 0 k 80)]) ∧ Below w.heap.size w w' := by
  cases h : gtog x1 y1 x2 y2 n x3 y3 x4 y4 m
  · rw [← h]; exact specStay_no x1 y1 x2 y2 n x3 y3 x4 y4 m k h w
  · rw [← h]
    cases h2 : inB 0 k 80
    · rw [← h2]; exact specStay_far x1 y1 x2 y2 n x3 y3 x4 y4 m k h h2 w
    · rw [← h2]; exact specStay_yes x1 y1 x2 y2 n x3 y3 x4 y4 m k h h2 w

end Go.Proofs.Ytjojjmmdgldcbaa
