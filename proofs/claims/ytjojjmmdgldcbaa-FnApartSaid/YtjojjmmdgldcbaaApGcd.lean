/- The greatest common divisor by Euclid's way, both sides, for great numbers. Conditions: those written in each theorem. -/
import Derived.Test.YtjojjmmdgldcbaaMvGcd
import Derived.Test.YtjojjmmdgldcbaaApM
import Derived.Deep.RegionHeld3
import Derived.Deep.DrawnRows
import Derived.IntWalk
import Derived.StillTailTactics
namespace Go.Proofs.Ytjojjmmdgldcbaa
open Go.RowKit


attribute [local go_sem ↓] Go.wp_at_zero Go.wp_at_succ

set_option maxHeartbeats 400000 in
theorem l1AbsW_any (n : Nat) (hn : n ≤ 1000000000000000) (w : World) :
    Calls Try.prog 89 #[.int .i64 (n : Int)] w fun e w' => e = .returned (.int .i64 (n : Int)) ∧ w = w' := by
  have v1 : wrap64 (-(n : Int)) = -(n : Int) := IntWalk.wrap64_in _ ⟨by omega, by omega⟩
  have v2 : IntKind.i64.wrap (-(n : Int)) = -(n : Int) := IntWalk.i64_in _ (by omega)
  have e0 : hi2 (n : Int) (-(n : Int)) = (n : Int) := by unfold hi2; split <;> omega
  have HM := Lib.hid (fun W => l1Most_any (n : Int) (-(n : Int)) W)
  rw [e0] at HM
  clear e0 hn
  go_enter Try.func89, Try.ntmps89
  go_wp2_with (go_at_call 87; ((with_reducible refine (HM.out _).mono ?_); rintro e w' ⟨rfl, rfl⟩))
  go_ret
  exact ⟨rfl, rfl⟩

set_option maxHeartbeats 2000000 in
theorem lowestW_any (A B : Nat) (hA : A ≤ 1000000000000000) (hB : B ≤ 1000000000000000) (hB0 : 0 < B) (w : World) :
    Calls Try.prog 92 #[.int .i64 (A : Int), .int .i64 (B : Int)] w fun e w' => e = .returned (.tuple #[.int .i64 (lowN A B), .int .i64 (lowD A B)]) ∧ Below w.heap.size w w' := by
  obtain ⟨qa, hqa⟩ : ∃ q, q = lowN A B := ⟨_, rfl⟩
  obtain ⟨qb, hqb⟩ : ∃ q, q = lowD A B := ⟨_, rfl⟩
  rw [← hqa, ← hqb]
  have HQA := Lib.hid hqa
  have HQB := Lib.hid hqb
  clear hqa hqb
  go_enter Try.func92, Try.ntmps92
  go_wp2
  go_loopw [6, 7] (fun xv yv wr => ∃ u v : Nat, xv = .int .i64 (u : Int) ∧ yv = .int .i64 (v : Int) ∧ Nat.gcd u v = Nat.gcd A B ∧ 0 < u + v ∧ u ≤ 1000000000000000 ∧ v ≤ 1000000000000000 ∧ Below w.heap.size w wr) (fun _ yv _ => (intOf yv).toNat)
  case atStart => exact ⟨_, _, rfl, rfl, Nat.gcd_comm _ _, by omega, by omega, by omega, (by repeat (first | exact Below.refl _ _ | assumption | refine Below.drew ?_ | refine below_drewN ?_ _ | refine Below.alloc ?_ (by first | omega | (simp; done) | (simp; omega)) _ | refine Below.setCell ?_ (by first | omega | (simp; done) | (simp; omega)) _ | refine Below.trans ?_ (Below.mono (by assumption) (by first | omega | (simp; done) | (simp; omega)))))⟩
  case round =>
    obtain ⟨u, v, rfl, rfl, hg, hs, hu, hv, hbr⟩ := hrel
    by_cases hlt : 0 < v
    · have hm : u % v < v := Nat.mod_lt _ hlt
      have e1 : ((u : Int).tmod (v : Int)) = ((u % v : Nat) : Int) := by
        rw [Int.tmod_eq_emod_of_nonneg (by omega)]; rfl
      have e2 : (u : Int) % (v : Int) = ((u % v : Nat) : Int) := rfl
      obtain ⟨r, hr⟩ : ∃ r, r = u % v := ⟨_, rfl⟩
      rw [← hr] at e1 e2 hm
      have z1 : ((v : Int) == 0) = false := by simp; omega
      have z2 : ¬ (v : Int) = 0 := by omega
      have z3 : (0 : Int) < (v : Int) := by omega
      have HG := Lib.hid hg
      have HR := Lib.hid hr
      clear hg hr
      go_wp2
      go_quiet (fail)
      go_wp2
      go_roundw
      case rel => exact ⟨v, r, rfl, rfl, by rw [HR.out, gcd_step]; exact HG.out, by omega, by omega, by omega, (by repeat (first | exact Below.refl _ _ | assumption | refine Below.drew ?_ | refine below_drewN ?_ _ | refine Below.alloc ?_ (by first | omega | (simp; done) | (simp; omega)) _ | refine Below.setCell ?_ (by first | omega | (simp; done) | (simp; omega)) _ | refine Below.trans ?_ (Below.mono (by assumption) (by first | omega | (simp; done) | (simp; omega)))))⟩
      case measure => simp [intOf]; omega
    · obtain rfl : v = 0 := by omega
      rw [Nat.gcd_zero_right] at hg
      subst hg
      have g0 : 0 < Nat.gcd A B := by omega
      have b1 := Nat.div_le_self A (Nat.gcd A B)
      have b2 := Nat.div_le_self B (Nat.gcd A B)
      have t1 : (A : Int).tdiv (Nat.gcd A B : Nat) = qa := by rw [Int.tdiv_eq_ediv_of_nonneg (by omega), HQA.out]; rfl
      have t2 : (B : Int).tdiv (Nat.gcd A B : Nat) = qb := by rw [Int.tdiv_eq_ediv_of_nonneg (by omega), HQB.out]; rfl
      have r1 : 0 ≤ qa ∧ qa ≤ 1000000000000000 := by
        have := HQA.out
        unfold lowN at this
        obtain ⟨c, hc⟩ : ∃ c : Nat, c = A / Nat.gcd A B := ⟨_, rfl⟩
        rw [← hc] at this b1
        omega
      have r2 : 0 ≤ qb ∧ qb ≤ 1000000000000000 := by
        have := HQB.out
        unfold lowD at this
        obtain ⟨c, hc⟩ : ∃ c : Nat, c = B / Nat.gcd A B := ⟨_, rfl⟩
        rw [← hc] at this b2
        omega
      clear HQA HQB
      obtain ⟨g, hg⟩ : ∃ g, g = Nat.gcd A B := ⟨_, rfl⟩
      rw [← hg] at t1 t2 g0 hu ⊢
      clear hg hs hv b1 b2
      have z1 : ((g : Int) == 0) = false := by simp; omega
      have z2 : ¬ (g : Int) = 0 := by omega
      have v1 : wrap64 ((A : Int).tdiv (g : Int)) = qa := by rw [t1]; exact IntWalk.wrap64_in _ ⟨by omega, by omega⟩
      have v2 : wrap64 ((B : Int).tdiv (g : Int)) = qb := by rw [t2]; exact IntWalk.wrap64_in _ ⟨by omega, by omega⟩
      have v3 : IntKind.i64.wrap ((A : Int).tdiv (g : Int)) = qa := by rw [t1]; exact IntWalk.i64_in _ (by omega)
      have v4 : IntKind.i64.wrap ((B : Int).tdiv (g : Int)) = qb := by rw [t2]; exact IntWalk.i64_in _ (by omega)
      have t3 : (A : Int) / (g : Int) = qa := by rw [← t1, Int.tdiv_eq_ediv_of_nonneg (by omega)]
      have t4 : (B : Int) / (g : Int) = qb := by rw [← t2, Int.tdiv_eq_ediv_of_nonneg (by omega)]
      have v5 : wrap64 ((A : Int) / (g : Int)) = qa := by rw [t3]; exact IntWalk.wrap64_in _ ⟨by omega, by omega⟩
      have v6 : wrap64 ((B : Int) / (g : Int)) = qb := by rw [t4]; exact IntWalk.wrap64_in _ ⟨by omega, by omega⟩
      clear t3 t4
      clear hA hB hB0 r1 r2 hu g0 t1 t2
      go_wp2
      go_quiet (fail)
      go_wp2
      first | exact bodyPost_ret (v := .tuple #[.int .i64 qa, .int .i64 qb]) (by simp [results, Try.results92, go_sem, *]) rfl ⟨rfl, (by repeat (first | exact Below.refl _ _ | assumption | refine Below.drew ?_ | refine below_drewN ?_ _ | refine Below.alloc ?_ (by first | omega | (simp; done) | (simp; omega)) _ | refine Below.setCell ?_ (by first | omega | (simp; done) | (simp; omega)) _ | refine Below.trans ?_ (Below.mono (by assumption) (by first | omega | (simp; done) | (simp; omega)))))⟩

set_option maxHeartbeats 2000000 in
theorem mvPartW_any (A B : Nat) (hA : A ≤ 1000000000000000) (hB : B ≤ 1000000000000000) (hB0 : 0 < B) (w : World) :
    Calls Try.prog 56 #[.int .i64 (A : Int), .int .i64 (B : Int)] w fun e w' => e = .returned (.tuple #[.int .i64 (lowN A B), .int .i64 (lowD A B)]) ∧ Below w.heap.size w w' := by
  obtain ⟨qa, hqa⟩ : ∃ q, q = lowN A B := ⟨_, rfl⟩
  obtain ⟨qb, hqb⟩ : ∃ q, q = lowD A B := ⟨_, rfl⟩
  rw [← hqa, ← hqb]
  have HQA := Lib.hid hqa
  have HQB := Lib.hid hqb
  clear hqa hqb
  go_enter Try.func56, Try.ntmps56
  go_wp2_with (first | (go_at_call 89; (refine (l1AbsW_any _ hA _).mono ?_; rintro e w' ⟨rfl, rfl⟩)))
  go_loopw [6, 7] (fun xv yv wr => ∃ u v : Nat, xv = .int .i64 (u : Int) ∧ yv = .int .i64 (v : Int) ∧ Nat.gcd u v = Nat.gcd A B ∧ 0 < u + v ∧ u ≤ 1000000000000000 ∧ v ≤ 1000000000000000 ∧ Below w.heap.size w wr) (fun _ yv _ => (intOf yv).toNat)
  case atStart => exact ⟨_, _, rfl, rfl, rfl, by omega, by omega, by omega, (by repeat (first | exact Below.refl _ _ | assumption | refine Below.drew ?_ | refine below_drewN ?_ _ | refine Below.alloc ?_ (by first | omega | (simp; done) | (simp; omega)) _ | refine Below.setCell ?_ (by first | omega | (simp; done) | (simp; omega)) _ | refine Below.trans ?_ (Below.mono (by assumption) (by first | omega | (simp; done) | (simp; omega)))))⟩
  case round =>
    obtain ⟨u, v, rfl, rfl, hg, hs, hu, hv, hbr⟩ := hrel
    by_cases hlt : 0 < v
    · have hm : u % v < v := Nat.mod_lt _ hlt
      have e1 : ((u : Int).tmod (v : Int)) = ((u % v : Nat) : Int) := by
        rw [Int.tmod_eq_emod_of_nonneg (by omega)]; rfl
      have e2 : (u : Int) % (v : Int) = ((u % v : Nat) : Int) := rfl
      obtain ⟨r, hr⟩ : ∃ r, r = u % v := ⟨_, rfl⟩
      rw [← hr] at e1 e2 hm
      have z1 : ((v : Int) == 0) = false := by simp; omega
      have z2 : ¬ (v : Int) = 0 := by omega
      have z3 : (0 : Int) < (v : Int) := by omega
      have HG := Lib.hid hg
      have HR := Lib.hid hr
      clear hg hr
      go_wp2
      go_roundw
      case rel => exact ⟨v, r, rfl, rfl, by rw [HR.out, gcd_step]; exact HG.out, by omega, by omega, by omega, (by repeat (first | exact Below.refl _ _ | assumption | refine Below.drew ?_ | refine below_drewN ?_ _ | refine Below.alloc ?_ (by first | omega | (simp; done) | (simp; omega)) _ | refine Below.setCell ?_ (by first | omega | (simp; done) | (simp; omega)) _ | refine Below.trans ?_ (Below.mono (by assumption) (by first | omega | (simp; done) | (simp; omega)))))⟩
      case measure => simp [intOf]; omega
    · obtain rfl : v = 0 := by omega
      rw [Nat.gcd_zero_right] at hg
      subst hg
      have g0 : 0 < Nat.gcd A B := by omega
      have b1 := Nat.div_le_self A (Nat.gcd A B)
      have b2 := Nat.div_le_self B (Nat.gcd A B)
      have t1 : (A : Int).tdiv (Nat.gcd A B : Nat) = qa := by rw [Int.tdiv_eq_ediv_of_nonneg (by omega), HQA.out]; rfl
      have t2 : (B : Int).tdiv (Nat.gcd A B : Nat) = qb := by rw [Int.tdiv_eq_ediv_of_nonneg (by omega), HQB.out]; rfl
      have r1 : 0 ≤ qa ∧ qa ≤ 1000000000000000 := by
        have := HQA.out
        unfold lowN at this
        obtain ⟨c, hc⟩ : ∃ c : Nat, c = A / Nat.gcd A B := ⟨_, rfl⟩
        rw [← hc] at this b1
        omega
      have r2 : 0 ≤ qb ∧ qb ≤ 1000000000000000 := by
        have := HQB.out
        unfold lowD at this
        obtain ⟨c, hc⟩ : ∃ c : Nat, c = B / Nat.gcd A B := ⟨_, rfl⟩
        rw [← hc] at this b2
        omega
      clear HQA HQB
      obtain ⟨g, hg⟩ : ∃ g, g = Nat.gcd A B := ⟨_, rfl⟩
      rw [← hg] at t1 t2 g0 hu ⊢
      clear hg hs hv b1 b2
      have z1 : ((g : Int) == 0) = false := by simp; omega
      have z2 : ¬ (g : Int) = 0 := by omega
      have v1 : wrap64 ((A : Int).tdiv (g : Int)) = qa := by rw [t1]; exact IntWalk.wrap64_in _ ⟨by omega, by omega⟩
      have v2 : wrap64 ((B : Int).tdiv (g : Int)) = qb := by rw [t2]; exact IntWalk.wrap64_in _ ⟨by omega, by omega⟩
      have v3 : IntKind.i64.wrap ((A : Int).tdiv (g : Int)) = qa := by rw [t1]; exact IntWalk.i64_in _ (by omega)
      have v4 : IntKind.i64.wrap ((B : Int).tdiv (g : Int)) = qb := by rw [t2]; exact IntWalk.i64_in _ (by omega)
      have t3 : (A : Int) / (g : Int) = qa := by rw [← t1, Int.tdiv_eq_ediv_of_nonneg (by omega)]
      have t4 : (B : Int) / (g : Int) = qb := by rw [← t2, Int.tdiv_eq_ediv_of_nonneg (by omega)]
      have v5 : wrap64 ((A : Int) / (g : Int)) = qa := by rw [t3]; exact IntWalk.wrap64_in _ ⟨by omega, by omega⟩
      have v6 : wrap64 ((B : Int) / (g : Int)) = qb := by rw [t4]; exact IntWalk.wrap64_in _ ⟨by omega, by omega⟩
      clear t3 t4
      clear hA hB hB0 r1 r2 hu g0 t1 t2
      go_wp2
      go_quiet (fail)
      go_wp2
      first | exact bodyPost_ret (v := .tuple #[.int .i64 qa, .int .i64 qb]) (by simp [results, Try.results56, go_sem, *]) rfl ⟨rfl, (by repeat (first | exact Below.refl _ _ | assumption | refine Below.drew ?_ | refine below_drewN ?_ _ | refine Below.alloc ?_ (by first | omega | (simp; done) | (simp; omega)) _ | refine Below.setCell ?_ (by first | omega | (simp; done) | (simp; omega)) _ | refine Below.trans ?_ (Below.mono (by assumption) (by first | omega | (simp; done) | (simp; omega)))))⟩

theorem low_mul {A B k : Nat} (hk : 0 < k) (hB : 0 < B) : lowN (A * k) (B * k) = lowN A B ∧ lowD (A * k) (B * k) = lowD A B := by
  have hg : 0 < Nat.gcd A B := Nat.gcd_pos_of_pos_right A hB
  unfold lowN lowD
  rw [Nat.gcd_mul_right]
  exact ⟨by rw [Nat.mul_div_mul_right _ _ hk], by rw [Nat.mul_div_mul_right _ _ hk]⟩
theorem low_one (A : Nat) : lowN A 1 = (A : Int) ∧ lowD A 1 = 1 := by
  unfold lowN lowD
  rw [Nat.gcd_one_right]
  exact ⟨by rw [Nat.div_one], rfl⟩
theorem low_zero {B : Nat} (hB : 0 < B) : lowN 0 B = 0 ∧ lowD 0 B = 1 := by
  unfold lowN lowD
  rw [Nat.gcd_zero_left, Nat.zero_div, Nat.div_self hB]
  exact ⟨rfl, rfl⟩
/-- What a fraction is in lowest terms. -/
theorem low_facts (A B : Nat) (hB : 0 < B) : ∃ k : Nat, 0 < k ∧ (A : Int) = lowN A B * (k : Int) ∧ (B : Int) = lowD A B * (k : Int) ∧ 0 ≤ lowN A B ∧ 0 < lowD A B ∧ lowN A B ≤ A ∧ lowD A B ≤ B := by
  have hg : 0 < Nat.gcd A B := Nat.gcd_pos_of_pos_right A hB
  have e1 := Nat.div_mul_cancel (Nat.gcd_dvd_left A B)
  have e2 := Nat.div_mul_cancel (Nat.gcd_dvd_right A B)
  have d1 := Nat.div_le_self A (Nat.gcd A B)
  have d2 := Nat.div_le_self B (Nat.gcd A B)
  have v0 : 0 < B / Nat.gcd A B := by
    rcases Nat.eq_zero_or_pos (B / Nat.gcd A B) with h0 | h0
    · rw [h0, Nat.zero_mul] at e2
      omega
    · exact h0
  unfold lowN lowD
  refine ⟨Nat.gcd A B, hg, ?_, ?_, Int.natCast_nonneg _, by exact_mod_cast v0, by exact_mod_cast d1, by exact_mod_cast d2⟩
  · exact_mod_cast e1.symm
  · exact_mod_cast e2.symm

end Go.Proofs.Ytjojjmmdgldcbaa
