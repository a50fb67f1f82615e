/- The specification's least square of two moves, and its time. Conditions: those written in each theorem. -/
import Derived.Test.YtjojjmmdgldcbaaApGood
import Derived.Deep.RegionHeld3
import Derived.Deep.DrawnRows
import Derived.IntWalk
import Derived.StillTailTactics
namespace Go.Proofs.Ytjojjmmdgldcbaa
open Go.RowKit


attribute [local go_sem ↓] Go.wp_at_zero Go.wp_at_succ

set_option maxHeartbeats 1000000 in
theorem apEnds_any (x1 y1 x2 y2 n x3 y3 x4 y4 m p q r s : Int) (v1 : IntKind.i64.wrap (x1 - x3) = p) (v2 : IntKind.i64.wrap (y1 - y3) = q) (v3 : IntKind.i64.wrap (x2 - x4) = r) (v4 : IntKind.i64.wrap (y2 - y4) = s) (w : World) :
    Calls Try.prog 65 #[.agg #[.int .i64 x1, .int .i64 y1, .int .i64 x2, .int .i64 y2, .int .i64 n], .agg #[.int .i64 x3, .int .i64 y3, .int .i64 x4, .int .i64 y4, .int .i64 m]] w fun e w' => e = .returned (.tuple #[.int .i64 p, .int .i64 q, .int .i64 r, .int .i64 s]) ∧ Below w.heap.size w w' := by
  skip
  all_goals
    go_enter Try.func65, Try.ntmps65
    go_wp2
    go_quiet (fail)
    go_wp2
    first | exact bodyPost_ret (v := .tuple #[.int .i64 p, .int .i64 q, .int .i64 r, .int .i64 s]) (by simp [results, Try.results65, go_sem, *]) rfl ⟨rfl, (by repeat (first | exact Below.refl _ _ | assumption | refine Below.drew ?_ | refine below_drewN ?_ _ | refine Below.alloc ?_ (by first | omega | (simp; done) | (simp; omega)) _ | refine Below.setCell ?_ (by first | omega | (simp; done) | (simp; omega)) _ | refine Below.trans ?_ (Below.mono (by assumption) (by first | omega | (simp; done) | (simp; omega)))))⟩

/-- What the time of the least square is computed from. -/
theorem in_facts {p q r s : Int} (h : wayOk p q r s) : ∃ vx vy a b e I c d C : Int, I = apI p q r s ∧ C = apC p q r s ∧ IntKind.i64.wrap (r - p) = vx ∧ IntKind.i64.wrap (s - q) = vy ∧ IntKind.i64.wrap (p * vx) = a ∧ IntKind.i64.wrap (q * vy) = b ∧ IntKind.i64.wrap (a + b) = e ∧ wrap64 (-e) = I ∧ IntKind.i64.wrap (-e) = I ∧ IntKind.i64.wrap (vx * vx) = c ∧ IntKind.i64.wrap (vy * vy) = d ∧ IntKind.i64.wrap (c + d) = C := by
  have h1 := apI_bd h
  have h2 := apC_bd h
  obtain ⟨⟨p0, p1⟩, ⟨q0, q1⟩, ⟨r0, r1⟩, s0, s1⟩ := h
  unfold apI at h1
  unfold apC at h2
  refine ⟨r - p, s - q, p * (r - p), q * (s - q), p * (r - p) + q * (s - q), _, (r - p) * (r - p), (s - q) * (s - q), _, rfl, rfl, IntWalk.i64_in _ (by omega), IntWalk.i64_in _ (by omega), IntWalk.i64_in _ (by omega), IntWalk.i64_in _ (by omega), IntWalk.i64_in _ (by omega), ?_, ?_, IntWalk.i64_in _ (by omega), IntWalk.i64_in _ (by omega), ?_⟩
  · unfold apI; exact IntWalk.wrap64_in _ ⟨by omega, by omega⟩
  · unfold apI; exact IntWalk.i64_in _ (by omega)
  · unfold apC; exact IntWalk.i64_in _ (by omega)

set_option maxHeartbeats 1000000 in
theorem apInner_low (x1 y1 x2 y2 n x3 y3 x4 y4 m p q r s : Int) (v1 : IntKind.i64.wrap (x1 - x3) = p) (v2 : IntKind.i64.wrap (y1 - y3) = q) (v3 : IntKind.i64.wrap (x2 - x4) = r) (v4 : IntKind.i64.wrap (y2 - y4) = s) (h : wayOk p q r s) (h0 : apI p q r s ≤ 0) (w : World) :
    Calls Try.prog 64 #[.agg #[.int .i64 x1, .int .i64 y1, .int .i64 x2, .int .i64 y2, .int .i64 n], .agg #[.int .i64 x3, .int .i64 y3, .int .i64 x4, .int .i64 y4, .int .i64 m]] w fun e w' => e = .returned (.tuple #[.int .i64 (guardI (apIn p q r s) (apI p q r s)), .int .i64 (guardI (apIn p q r s) (apC p q r s))]) ∧ Below w.heap.size w w' := by
  obtain ⟨q1, q2, q3, q4, q5, q6, q7⟩ := nadd
  have hin : apIn p q r s = false := by unfold apIn; exact decide_eq_false (by omega)
  rw [hin]
  clear hin
  obtain ⟨vx, vy, a, b, e', I, c, d, C, hI, hC, u1, u2, u3, u4, u5, u6, u7, u8, u9, u10⟩ := in_facts h
  clear h
  try rw [← hI, ← hC] at h1
  rw [← hI] at h0
  rw [← hI, ← hC]
  clear hI hC
  have HE := Lib.hid (fun W => apEnds_any x1 y1 x2 y2 n x3 y3 x4 y4 m p q r s v1 v2 v3 v4 W)
  clear v1 v2 v3 v4
  all_goals
    go_enter Try.func64, Try.ntmps64
    go_wp2_with (first | (go_at_call 65; ((with_reducible refine (HE.out _).mono ?_); rintro e w1 ⟨rfl, hb1⟩; have hs1 := hb1.size; (try simp at hs1); (first | have hk4 := call_facts hl3 hb1 (by simp) | skip); (first | have hk3 := call_facts hl2 hb1 (by simp) | skip); (first | have hk2 := call_facts hl1 hb1 (by simp) | skip); have hk1 := call_facts (fun b h => h) hb1 (Nat.le_refl _); (first | have hl4 := hk4.1 | skip); (first | have hl3 := hk3.1 | skip); (first | have hl2 := hk2.1 | skip); have hl1 := hk1.1)))
    first | exact bodyPost_ret (v := .tuple #[.int .i64 0, .int .i64 0]) (by simp [results, Try.results64, go_sem, *]) rfl ⟨rfl, (by repeat (first | exact Below.refl _ _ | assumption | refine Below.drew ?_ | refine below_drewN ?_ _ | refine Below.alloc ?_ (by first | omega | (simp; done) | (simp; omega)) _ | refine Below.setCell ?_ (by first | omega | (simp; done) | (simp; omega)) _ | refine Below.trans ?_ (Below.mono (by assumption) (by first | omega | (simp; done) | (simp; omega)))))⟩

set_option maxHeartbeats 1000000 in
theorem apInner_high (x1 y1 x2 y2 n x3 y3 x4 y4 m p q r s : Int) (v1 : IntKind.i64.wrap (x1 - x3) = p) (v2 : IntKind.i64.wrap (y1 - y3) = q) (v3 : IntKind.i64.wrap (x2 - x4) = r) (v4 : IntKind.i64.wrap (y2 - y4) = s) (h : wayOk p q r s) (h0 : ¬ apI p q r s ≤ 0) (h1 : apC p q r s ≤ apI p q r s) (w : World) :
    Calls Try.prog 64 #[.agg #[.int .i64 x1, .int .i64 y1, .int .i64 x2, .int .i64 y2, .int .i64 n], .agg #[.int .i64 x3, .int .i64 y3, .int .i64 x4, .int .i64 y4, .int .i64 m]] w fun e w' => e = .returned (.tuple #[.int .i64 (guardI (apIn p q r s) (apI p q r s)), .int .i64 (guardI (apIn p q r s) (apC p q r s))]) ∧ Below w.heap.size w w' := by
  obtain ⟨q1, q2, q3, q4, q5, q6, q7⟩ := nadd
  have hin : apIn p q r s = false := by unfold apIn; exact decide_eq_false (by omega)
  rw [hin]
  clear hin
  obtain ⟨vx, vy, a, b, e', I, c, d, C, hI, hC, u1, u2, u3, u4, u5, u6, u7, u8, u9, u10⟩ := in_facts h
  clear h
  try rw [← hI, ← hC] at h1
  rw [← hI] at h0
  rw [← hI, ← hC]
  clear hI hC
  have HE := Lib.hid (fun W => apEnds_any x1 y1 x2 y2 n x3 y3 x4 y4 m p q r s v1 v2 v3 v4 W)
  clear v1 v2 v3 v4
  all_goals
    go_enter Try.func64, Try.ntmps64
    go_wp2_with (first | (go_at_call 65; ((with_reducible refine (HE.out _).mono ?_); rintro e w1 ⟨rfl, hb1⟩; have hs1 := hb1.size; (try simp at hs1); (first | have hk4 := call_facts hl3 hb1 (by simp) | skip); (first | have hk3 := call_facts hl2 hb1 (by simp) | skip); (first | have hk2 := call_facts hl1 hb1 (by simp) | skip); have hk1 := call_facts (fun b h => h) hb1 (Nat.le_refl _); (first | have hl4 := hk4.1 | skip); (first | have hl3 := hk3.1 | skip); (first | have hl2 := hk2.1 | skip); have hl1 := hk1.1)))
    first | exact bodyPost_ret (v := .tuple #[.int .i64 0, .int .i64 0]) (by simp [results, Try.results64, go_sem, *]) rfl ⟨rfl, (by repeat (first | exact Below.refl _ _ | assumption | refine Below.drew ?_ | refine below_drewN ?_ _ | refine Below.alloc ?_ (by first | omega | (simp; done) | (simp; omega)) _ | refine Below.setCell ?_ (by first | omega | (simp; done) | (simp; omega)) _ | refine Below.trans ?_ (Below.mono (by assumption) (by first | omega | (simp; done) | (simp; omega)))))⟩

set_option maxHeartbeats 1000000 in
theorem apInner_in (x1 y1 x2 y2 n x3 y3 x4 y4 m p q r s : Int) (v1 : IntKind.i64.wrap (x1 - x3) = p) (v2 : IntKind.i64.wrap (y1 - y3) = q) (v3 : IntKind.i64.wrap (x2 - x4) = r) (v4 : IntKind.i64.wrap (y2 - y4) = s) (h : wayOk p q r s) (h0 : ¬ apI p q r s ≤ 0) (h1 : ¬ apC p q r s ≤ apI p q r s) (w : World) :
    Calls Try.prog 64 #[.agg #[.int .i64 x1, .int .i64 y1, .int .i64 x2, .int .i64 y2, .int .i64 n], .agg #[.int .i64 x3, .int .i64 y3, .int .i64 x4, .int .i64 y4, .int .i64 m]] w fun e w' => e = .returned (.tuple #[.int .i64 (guardI (apIn p q r s) (apI p q r s)), .int .i64 (guardI (apIn p q r s) (apC p q r s))]) ∧ Below w.heap.size w w' := by
  obtain ⟨q1, q2, q3, q4, q5, q6, q7⟩ := nadd
  have hin : apIn p q r s = true := by unfold apIn; exact decide_eq_true (by omega)
  rw [hin]
  clear hin
  obtain ⟨vx, vy, a, b, e', I, c, d, C, hI, hC, u1, u2, u3, u4, u5, u6, u7, u8, u9, u10⟩ := in_facts h
  clear h
  try rw [← hI, ← hC] at h1
  rw [← hI] at h0
  rw [← hI, ← hC]
  clear hI hC
  have HE := Lib.hid (fun W => apEnds_any x1 y1 x2 y2 n x3 y3 x4 y4 m p q r s v1 v2 v3 v4 W)
  clear v1 v2 v3 v4
  have h2 : 0 < I := by omega
  have h3 : I < C := by omega
  all_goals
    go_enter Try.func64, Try.ntmps64
    go_wp2_with (first | (go_at_call 65; ((with_reducible refine (HE.out _).mono ?_); rintro e w1 ⟨rfl, hb1⟩; have hs1 := hb1.size; (try simp at hs1); (first | have hk4 := call_facts hl3 hb1 (by simp) | skip); (first | have hk3 := call_facts hl2 hb1 (by simp) | skip); (first | have hk2 := call_facts hl1 hb1 (by simp) | skip); have hk1 := call_facts (fun b h => h) hb1 (Nat.le_refl _); (first | have hl4 := hk4.1 | skip); (first | have hl3 := hk3.1 | skip); (first | have hl2 := hk2.1 | skip); have hl1 := hk1.1)))
    first | exact bodyPost_ret (v := .tuple #[.int .i64 I, .int .i64 C]) (by simp [results, Try.results64, go_sem, *]) rfl ⟨rfl, (by repeat (first | exact Below.refl _ _ | assumption | refine Below.drew ?_ | refine below_drewN ?_ _ | refine Below.alloc ?_ (by first | omega | (simp; done) | (simp; omega)) _ | refine Below.setCell ?_ (by first | omega | (simp; done) | (simp; omega)) _ | refine Below.trans ?_ (Below.mono (by assumption) (by first | omega | (simp; done) | (simp; omega)))))⟩

theorem apInner_any (x1 y1 x2 y2 n x3 y3 x4 y4 m p q r s : Int) (v1 : IntKind.i64.wrap (x1 - x3) = p) (v2 : IntKind.i64.wrap (y1 - y3) = q) (v3 : IntKind.i64.wrap (x2 - x4) = r) (v4 : IntKind.i64.wrap (y2 - y4) = s) (h : wayOk p q r s) (w : World) :
    Calls Try.prog 64 #[.agg #[.int .i64 x1, .int .i64 y1, .int .i64 x2, .int .i64 y2, .int .i64 n], .agg #[.int .i64 x3, .int .i64 y3, .int .i64 x4, .int .i64 y4, .int .i64 m]] w fun e w' => e = .returned (.tuple #[.int .i64 (guardI (apIn p q r s) (apI p q r s)), .int .i64 (guardI (apIn p q r s) (apC p q r s))]) ∧ Below w.heap.size w w' := by
  by_cases h0 : apI p q r s ≤ 0
  · exact apInner_low x1 y1 x2 y2 n x3 y3 x4 y4 m p q r s v1 v2 v3 v4 h h0 w
  · by_cases h1 : apC p q r s ≤ apI p q r s
    · exact apInner_high x1 y1 x2 y2 n x3 y3 x4 y4 m p q r s v1 v2 v3 v4 h h0 h1 w
    · exact apInner_in x1 y1 x2 y2 n x3 y3 x4 y4 m p q r s v1 v2 v3 v4 h h0 h1 w
/-- The least square in lowest terms. -/
def aln (p q r s : Int) : Int := lowN (apN p q r s).toNat (apD p q r s).toNat
def ald (p q r s : Int) : Int := lowD (apN p q r s).toNat (apD p q r s).toNat

theorem cross_facts {p q r s : Int} (h : wayOk p q r s) (hi : apIn p q r s = true) : ∃ (a b X : Int) (A B : Nat), IntKind.i64.wrap (p * s) = a ∧ IntKind.i64.wrap (q * r) = b ∧ IntKind.i64.wrap (a - b) = X ∧ IntKind.i64.wrap (X * X) = (A : Int) ∧ apC p q r s = (B : Int) ∧ A ≤ 1000000000000000 ∧ B ≤ 1000000000000000 ∧ 0 < B ∧ aln p q r s = lowN A B ∧ ald p q r s = lowD A B := by
  have h1 := apX_bd h
  have h2 := apC_bd h
  have h3 := apIn_iff.1 hi
  obtain ⟨X, hX⟩ : ∃ X, X = apX p q r s := ⟨_, rfl⟩
  have hX' : X = p * s - q * r := hX
  rw [← hX] at h1
  refine ⟨p * s, q * r, X, (X * X).toNat, (apC p q r s).toNat, IntWalk.i64_in _ (by omega), IntWalk.i64_in _ (by omega), ?_, ?_, by omega, by omega, by omega, by omega, ?_, ?_⟩
  · rw [← hX']; exact IntWalk.i64_in _ (by omega)
  · rw [IntWalk.i64_in _ (by omega)]; omega
  · unfold aln apN apD; rw [hi, if_pos rfl, if_pos rfl, hX]
  · unfold ald apN apD; rw [hi, if_pos rfl, if_pos rfl, hX]
theorem ends_facts {p q r s : Int} (h : wayOk p q r s) : ∃ a b B c d E : Int, B = apB p q ∧ E = apB r s ∧ IntKind.i64.wrap (p * p) = a ∧ IntKind.i64.wrap (q * q) = b ∧ IntKind.i64.wrap (a + b) = B ∧ IntKind.i64.wrap (r * r) = c ∧ IntKind.i64.wrap (s * s) = d ∧ IntKind.i64.wrap (c + d) = E := by
  have h1 := apB_bd h.1 h.2.1
  have h2 := apB_bd h.2.2.1 h.2.2.2
  refine ⟨p * p, q * q, _, r * r, s * s, _, rfl, rfl, IntWalk.i64_in _ (by omega), IntWalk.i64_in _ (by omega), ?_, IntWalk.i64_in _ (by omega), IntWalk.i64_in _ (by omega), ?_⟩
  · unfold apB at h1 ⊢; exact IntWalk.i64_in _ (by omega)
  · unfold apB at h2 ⊢; exact IntWalk.i64_in _ (by omega)
theorem ends_low {p q r s : Int} (h : wayOk p q r s) (hi : apIn p q r s = false) : aln p q r s = lo2 (apB p q) (apB r s) ∧ ald p q r s = 1 := by
  have h1 := apB_bd h.1 h.2.1
  have h2 := apB_bd h.2.2.1 h.2.2.2
  have h3 : 0 ≤ lo2 (apB p q) (apB r s) := by unfold lo2; split <;> omega
  unfold aln ald apN apD
  rw [hi, if_neg (by decide), if_neg (by decide)]
  obtain ⟨e1, e2⟩ := low_one (lo2 (apB p q) (apB r s)).toNat
  show lowN _ 1 = _ ∧ lowD _ 1 = _
  rw [e1, e2]
  exact ⟨by omega, rfl⟩

set_option maxHeartbeats 2000000 in
theorem apLeast_in (x1 y1 x2 y2 n x3 y3 x4 y4 m p q r s : Int) (v1 : IntKind.i64.wrap (x1 - x3) = p) (v2 : IntKind.i64.wrap (y1 - y3) = q) (v3 : IntKind.i64.wrap (x2 - x4) = r) (v4 : IntKind.i64.wrap (y2 - y4) = s) (h : wayOk p q r s) (hi : apIn p q r s = true) (w : World) :
    Calls Try.prog 62 #[.agg #[.int .i64 x1, .int .i64 y1, .int .i64 x2, .int .i64 y2, .int .i64 n], .agg #[.int .i64 x3, .int .i64 y3, .int .i64 x4, .int .i64 y4, .int .i64 m]] w fun e w' => e = .returned (.tuple #[.int .i64 (aln p q r s), .int .i64 (ald p q r s)]) ∧ Below w.heap.size w w' := by
  obtain ⟨q1, q2, q3, q4, q5, q6, q7⟩ := nadd
  have HI := Lib.hid (fun W => apInner_any x1 y1 x2 y2 n x3 y3 x4 y4 m p q r s v1 v2 v3 v4 h W)
  rw [hi] at HI
  obtain ⟨a, b, X, A, B, u1, u2, u3, u4, hC, hA, hB, hB0, e1, e2⟩ := cross_facts h hi
  rw [hC] at HI
  rw [e1, e2]
  have HP := Lib.hid (fun W => mvPartW_any A B hA hB hB0 W)
  obtain ⟨P, hP⟩ : ∃ P, P = lowN A B := ⟨_, rfl⟩
  obtain ⟨Q, hQ⟩ : ∃ Q, Q = lowD A B := ⟨_, rfl⟩
  rw [← hP, ← hQ] at HP
  rw [← hP, ← hQ]
  obtain ⟨I, hI⟩ : ∃ I, I = apI p q r s := ⟨_, rfl⟩
  rw [← hI] at HI
  simp only [guardI_facts.1] at HI
  have z0 : (0 : Int) < (B : Int) := by omega
  clear h hi hC hA hB hB0 e1 e2 hP hQ hI
  have HE := Lib.hid (fun W => apEnds_any x1 y1 x2 y2 n x3 y3 x4 y4 m p q r s v1 v2 v3 v4 W)
  clear v1 v2 v3 v4
  all_goals
    go_enter Try.func62, Try.ntmps62
    go_wp2_with (first | (go_at_call 65; ((with_reducible refine (HE.out _).mono ?_); rintro e w1 ⟨rfl, hb1⟩; have hs1 := hb1.size; (try simp at hs1); (first | have hk4 := call_facts hl3 hb1 (by simp) | skip); (first | have hk3 := call_facts hl2 hb1 (by simp) | skip); (first | have hk2 := call_facts hl1 hb1 (by simp) | skip); have hk1 := call_facts (fun b h => h) hb1 (Nat.le_refl _); (first | have hl4 := hk4.1 | skip); (first | have hl3 := hk3.1 | skip); (first | have hl2 := hk2.1 | skip); have hl1 := hk1.1)) | (go_at_call 64; ((with_reducible refine (HI.out _).mono ?_); rintro e w1 ⟨rfl, hb1⟩; have hs1 := hb1.size; (try simp at hs1); (first | have hk4 := call_facts hl3 hb1 (by simp) | skip); (first | have hk3 := call_facts hl2 hb1 (by simp) | skip); (first | have hk2 := call_facts hl1 hb1 (by simp) | skip); have hk1 := call_facts (fun b h => h) hb1 (Nat.le_refl _); (first | have hl4 := hk4.1 | skip); (first | have hl3 := hk3.1 | skip); (first | have hl2 := hk2.1 | skip); have hl1 := hk1.1)) | (go_at_call 56; ((with_reducible refine (HP.out _).mono ?_); rintro e w1 ⟨rfl, hb1⟩; have hs1 := hb1.size; (try simp at hs1); (first | have hk4 := call_facts hl3 hb1 (by simp) | skip); (first | have hk3 := call_facts hl2 hb1 (by simp) | skip); (first | have hk2 := call_facts hl1 hb1 (by simp) | skip); have hk1 := call_facts (fun b h => h) hb1 (Nat.le_refl _); (first | have hl4 := hk4.1 | skip); (first | have hl3 := hk3.1 | skip); (first | have hl2 := hk2.1 | skip); have hl1 := hk1.1)))
    first | exact bodyPost_ret (v := .tuple #[.int .i64 P, .int .i64 Q]) (by simp [results, Try.results62, go_sem, *]) rfl ⟨rfl, (by repeat (first | exact Below.refl _ _ | assumption | refine Below.drew ?_ | refine below_drewN ?_ _ | refine Below.alloc ?_ (by first | omega | (simp; done) | (simp; omega)) _ | refine Below.setCell ?_ (by first | omega | (simp; done) | (simp; omega)) _ | refine Below.trans ?_ (Below.mono (by assumption) (by first | omega | (simp; done) | (simp; omega)))))⟩

set_option maxHeartbeats 2000000 in
theorem apLeast_out (x1 y1 x2 y2 n x3 y3 x4 y4 m p q r s : Int) (v1 : IntKind.i64.wrap (x1 - x3) = p) (v2 : IntKind.i64.wrap (y1 - y3) = q) (v3 : IntKind.i64.wrap (x2 - x4) = r) (v4 : IntKind.i64.wrap (y2 - y4) = s) (h : wayOk p q r s) (hi : apIn p q r s = false) (w : World) :
    Calls Try.prog 62 #[.agg #[.int .i64 x1, .int .i64 y1, .int .i64 x2, .int .i64 y2, .int .i64 n], .agg #[.int .i64 x3, .int .i64 y3, .int .i64 x4, .int .i64 y4, .int .i64 m]] w fun e w' => e = .returned (.tuple #[.int .i64 (aln p q r s), .int .i64 (ald p q r s)]) ∧ Below w.heap.size w w' := by
  obtain ⟨q1, q2, q3, q4, q5, q6, q7⟩ := nadd
  have HI := Lib.hid (fun W => apInner_any x1 y1 x2 y2 n x3 y3 x4 y4 m p q r s v1 v2 v3 v4 h W)
  rw [hi] at HI
  simp only [guardI_facts.2] at HI
  obtain ⟨e1, e2⟩ := ends_low h hi
  rw [e1, e2]
  obtain ⟨a, b, B, c, d, E, hB, hE, u1, u2, u3, u4, u5, u6⟩ := ends_facts h
  rw [← hB, ← hE]
  clear h hi e1 e2 hB hE
  have HE := Lib.hid (fun W => apEnds_any x1 y1 x2 y2 n x3 y3 x4 y4 m p q r s v1 v2 v3 v4 W)
  clear v1 v2 v3 v4
  all_goals
    go_enter Try.func62, Try.ntmps62
    go_wp2_with (first | (go_at_call 65; ((with_reducible refine (HE.out _).mono ?_); rintro e w1 ⟨rfl, hb1⟩; have hs1 := hb1.size; (try simp at hs1); (first | have hk4 := call_facts hl3 hb1 (by simp) | skip); (first | have hk3 := call_facts hl2 hb1 (by simp) | skip); (first | have hk2 := call_facts hl1 hb1 (by simp) | skip); have hk1 := call_facts (fun b h => h) hb1 (Nat.le_refl _); (first | have hl4 := hk4.1 | skip); (first | have hl3 := hk3.1 | skip); (first | have hl2 := hk2.1 | skip); have hl1 := hk1.1)) | (go_at_call 64; ((with_reducible refine (HI.out _).mono ?_); rintro e w1 ⟨rfl, hb1⟩; have hs1 := hb1.size; (try simp at hs1); (first | have hk4 := call_facts hl3 hb1 (by simp) | skip); (first | have hk3 := call_facts hl2 hb1 (by simp) | skip); (first | have hk2 := call_facts hl1 hb1 (by simp) | skip); have hk1 := call_facts (fun b h => h) hb1 (Nat.le_refl _); (first | have hl4 := hk4.1 | skip); (first | have hl3 := hk3.1 | skip); (first | have hl2 := hk2.1 | skip); have hl1 := hk1.1)) | (go_at_call 93; ((with_reducible refine (l1Least_any _ _ _).mono ?_); rintro e w' ⟨rfl, rfl⟩)))
    first | exact bodyPost_ret (v := .tuple #[.int .i64 (lo2 B E), .int .i64 1]) (by simp [results, Try.results62, go_sem, *]) rfl ⟨rfl, (by repeat (first | exact Below.refl _ _ | assumption | refine Below.drew ?_ | refine below_drewN ?_ _ | refine Below.alloc ?_ (by first | omega | (simp; done) | (simp; omega)) _ | refine Below.setCell ?_ (by first | omega | (simp; done) | (simp; omega)) _ | refine Below.trans ?_ (Below.mono (by assumption) (by first | omega | (simp; done) | (simp; omega)))))⟩

theorem apLeast_any (x1 y1 x2 y2 n x3 y3 x4 y4 m p q r s : Int) (v1 : IntKind.i64.wrap (x1 - x3) = p) (v2 : IntKind.i64.wrap (y1 - y3) = q) (v3 : IntKind.i64.wrap (x2 - x4) = r) (v4 : IntKind.i64.wrap (y2 - y4) = s) (h : wayOk p q r s) (w : World) :
    Calls Try.prog 62 #[.agg #[.int .i64 x1, .int .i64 y1, .int .i64 x2, .int .i64 y2, .int .i64 n], .agg #[.int .i64 x3, .int .i64 y3, .int .i64 x4, .int .i64 y4, .int .i64 m]] w fun e w' => e = .returned (.tuple #[.int .i64 (aln p q r s), .int .i64 (ald p q r s)]) ∧ Below w.heap.size w w' := by
  cases hi : apIn p q r s
  · exact apLeast_out x1 y1 x2 y2 n x3 y3 x4 y4 m p q r s v1 v2 v3 v4 h hi w
  · exact apLeast_in x1 y1 x2 y2 n x3 y3 x4 y4 m p q r s v1 v2 v3 v4 h hi w

end Go.Proofs.Ytjojjmmdgldcbaa
