/- The greatest common divisor by Euclid's way, both sides; the square of a step. Conditions: those written in each theorem. -/
import Derived.Test.YtjojjmmdgldcbaaMvAt
import Derived.Deep.RegionHeld3
import Derived.Deep.DrawnRows
import Derived.IntWalk
import Derived.StillTailTactics
namespace Go.Proofs.Ytjojjmmdgldcbaa
open Go.RowKit


attribute [local go_sem ↓] Go.wp_at_zero Go.wp_at_succ

theorem gcd_step {u v : Nat} : Nat.gcd v (u % v) = Nat.gcd u v := by
  rw [Nat.gcd_comm v, ← Nat.gcd_rec, Nat.gcd_comm]
/-- Halves of a fraction in lowest terms. -/
def lowN (A B : Nat) : Int := ((A / Nat.gcd A B : Nat) : Int)
def lowD (A B : Nat) : Int := ((B / Nat.gcd A B : Nat) : Int)

set_option maxHeartbeats 400000 in
theorem l1AbsN_any (n : Nat) (hn : n ≤ 4000000) (w : World) :
    Calls Try.prog 89 #[.int .i64 (n : Int)] w fun e w' => e = .returned (.int .i64 (n : Int)) ∧ w = w' := by
  have v1 : wrap64 (-(n : Int)) = -(n : Int) := IntWalk.wrap64_in _ ⟨by omega, by omega⟩
  have v2 : IntKind.i64.wrap (-(n : Int)) = -(n : Int) := IntWalk.i64_in _ (by omega)
  have e0 : hi2 (n : Int) (-(n : Int)) = (n : Int) := by unfold hi2; split <;> omega
  have HM := Lib.hid (fun W => l1Most_any (n : Int) (-(n : Int)) W)
  rw [e0] at HM
  clear e0 hn
  go_enter Try.func89, Try.ntmps89
  go_wp2_with (go_at_call 87; ((with_reducible refine (HM.out _).mono ?_); rintro e w' ⟨rfl, rfl⟩))
  go_ret
  exact ⟨rfl, rfl⟩

set_option maxHeartbeats 2000000 in
theorem lowest_any (A B : Nat) (hA : A ≤ 4000000) (hB : B ≤ 4000000) (hB0 : 0 < B) (w : World) :
    Calls Try.prog 92 #[.int .i64 (A : Int), .int .i64 (B : Int)] w fun e w' => e = .returned (.tuple #[.int .i64 (lowN A B), .int .i64 (lowD A B)]) ∧ Below w.heap.size w w' := by
  obtain ⟨qa, hqa⟩ : ∃ q, q = lowN A B := ⟨_, rfl⟩
  obtain ⟨qb, hqb⟩ : ∃ q, q = lowD A B := ⟨_, rfl⟩
  rw [← hqa, ← hqb]
  have HQA := Lib.hid hqa
  have HQB := Lib.hid hqb
  clear hqa hqb
  go_enter Try.func92, Try.ntmps92
  go_wp2
  go_loopw [6, 7] (fun xv yv wr => ∃ u v : Nat, xv = .int .i64 (u : Int) ∧ yv = .int .i64 (v : Int) ∧ Nat.gcd u v = Nat.gcd A B ∧ 0 < u + v ∧ u ≤ 4000000 ∧ v ≤ 4000000 ∧ Below w.heap.size w wr) (fun _ yv _ => (intOf yv).toNat)
  case atStart => exact ⟨_, _, rfl, rfl, Nat.gcd_comm _ _, by omega, by omega, by omega, (by repeat (first | exact Below.refl _ _ | assumption | refine Below.drew ?_ | refine below_drewN ?_ _ | refine Below.alloc ?_ (by first | omega | (simp; done) | (simp; omega)) _ | refine Below.setCell ?_ (by first | omega | (simp; done) | (simp; omega)) _ | refine Below.trans ?_ (Below.mono (by assumption) (by first | omega | (simp; done) | (simp; omega)))))⟩
  case round =>
    obtain ⟨u, v, rfl, rfl, hg, hs, hu, hv, hbr⟩ := hrel
    by_cases hlt : 0 < v
    · have hm : u % v < v := Nat.mod_lt _ hlt
      have e1 : ((u : Int).tmod (v : Int)) = ((u % v : Nat) : Int) := by
        rw [Int.tmod_eq_emod_of_nonneg (by omega)]; rfl
      have e2 : (u : Int) % (v : Int) = ((u % v : Nat) : Int) := rfl
      obtain ⟨r, hr⟩ : ∃ r, r = u % v := ⟨_, rfl⟩
      rw [← hr] at e1 e2 hm
      have z1 : ((v : Int) == 0) = false := by simp; omega
      have z2 : ¬ (v : Int) = 0 := by omega
      have z3 : (0 : Int) < (v : Int) := by omega
      have HG := Lib.hid hg
      have HR := Lib.hid hr
      clear hg hr
      go_wp2
      go_quiet (fail)
      go_wp2
      go_roundw
      case rel => exact ⟨v, r, rfl, rfl, by rw [HR.out, gcd_step]; exact HG.out, by omega, by omega, by omega, (by repeat (first | exact Below.refl _ _ | assumption | refine Below.drew ?_ | refine below_drewN ?_ _ | refine Below.alloc ?_ (by first | omega | (simp; done) | (simp; omega)) _ | refine Below.setCell ?_ (by first | omega | (simp; done) | (simp; omega)) _ | refine Below.trans ?_ (Below.mono (by assumption) (by first | omega | (simp; done) | (simp; omega)))))⟩
      case measure => simp [intOf]; omega
    · obtain rfl : v = 0 := by omega
      rw [Nat.gcd_zero_right] at hg
      subst hg
      have g0 : 0 < Nat.gcd A B := by omega
      have b1 := Nat.div_le_self A (Nat.gcd A B)
      have b2 := Nat.div_le_self B (Nat.gcd A B)
      have t1 : (A : Int).tdiv (Nat.gcd A B : Nat) = qa := by rw [Int.tdiv_eq_ediv_of_nonneg (by omega), HQA.out]; rfl
      have t2 : (B : Int).tdiv (Nat.gcd A B : Nat) = qb := by rw [Int.tdiv_eq_ediv_of_nonneg (by omega), HQB.out]; rfl
      have r1 : 0 ≤ qa ∧ qa ≤ 4000000 := by
        have := HQA.out
        unfold lowN at this
        obtain ⟨c, hc⟩ : ∃ c : Nat, c = A / Nat.gcd A B := ⟨_, rfl⟩
        rw [← hc] at this b1
        omega
      have r2 : 0 ≤ qb ∧ qb ≤ 4000000 := by
        have := HQB.out
        unfold lowD at this
        obtain ⟨c, hc⟩ : ∃ c : Nat, c = B / Nat.gcd A B := ⟨_, rfl⟩
        rw [← hc] at this b2
        omega
      clear HQA HQB
      obtain ⟨g, hg⟩ : ∃ g, g = Nat.gcd A B := ⟨_, rfl⟩
      rw [← hg] at t1 t2 g0 hu ⊢
      clear hg hs hv b1 b2
      have z1 : ((g : Int) == 0) = false := by simp; omega
      have z2 : ¬ (g : Int) = 0 := by omega
      have v1 : wrap64 ((A : Int).tdiv (g : Int)) = qa := by rw [t1]; exact IntWalk.wrap64_in _ ⟨by omega, by omega⟩
      have v2 : wrap64 ((B : Int).tdiv (g : Int)) = qb := by rw [t2]; exact IntWalk.wrap64_in _ ⟨by omega, by omega⟩
      have v3 : IntKind.i64.wrap ((A : Int).tdiv (g : Int)) = qa := by rw [t1]; exact IntWalk.i64_in _ (by omega)
      have v4 : IntKind.i64.wrap ((B : Int).tdiv (g : Int)) = qb := by rw [t2]; exact IntWalk.i64_in _ (by omega)
      have t3 : (A : Int) / (g : Int) = qa := by rw [← t1, Int.tdiv_eq_ediv_of_nonneg (by omega)]
      have t4 : (B : Int) / (g : Int) = qb := by rw [← t2, Int.tdiv_eq_ediv_of_nonneg (by omega)]
      have v5 : wrap64 ((A : Int) / (g : Int)) = qa := by rw [t3]; exact IntWalk.wrap64_in _ ⟨by omega, by omega⟩
      have v6 : wrap64 ((B : Int) / (g : Int)) = qb := by rw [t4]; exact IntWalk.wrap64_in _ ⟨by omega, by omega⟩
      clear t3 t4
      clear hA hB hB0 r1 r2 hu g0 t1 t2
      go_wp2
      go_quiet (fail)
      go_wp2
      first | exact bodyPost_ret (v := .tuple #[.int .i64 qa, .int .i64 qb]) (by simp [results, Try.results92, go_sem, *]) rfl ⟨rfl, (by repeat (first | exact Below.refl _ _ | assumption | refine Below.drew ?_ | refine below_drewN ?_ _ | refine Below.alloc ?_ (by first | omega | (simp; done) | (simp; omega)) _ | refine Below.setCell ?_ (by first | omega | (simp; done) | (simp; omega)) _ | refine Below.trans ?_ (Below.mono (by assumption) (by first | omega | (simp; done) | (simp; omega)))))⟩

set_option maxHeartbeats 2000000 in
theorem mvPart_any (A B : Nat) (hA : A ≤ 4000000) (hB : B ≤ 4000000) (hB0 : 0 < B) (w : World) :
    Calls Try.prog 56 #[.int .i64 (A : Int), .int .i64 (B : Int)] w fun e w' => e = .returned (.tuple #[.int .i64 (lowN A B), .int .i64 (lowD A B)]) ∧ Below w.heap.size w w' := by
  obtain ⟨qa, hqa⟩ : ∃ q, q = lowN A B := ⟨_, rfl⟩
  obtain ⟨qb, hqb⟩ : ∃ q, q = lowD A B := ⟨_, rfl⟩
  rw [← hqa, ← hqb]
  have HQA := Lib.hid hqa
  have HQB := Lib.hid hqb
  clear hqa hqb
  go_enter Try.func56, Try.ntmps56
  go_wp2_with (first | (go_at_call 89; (refine (l1AbsN_any _ hA _).mono ?_; rintro e w' ⟨rfl, rfl⟩)))
  go_loopw [6, 7] (fun xv yv wr => ∃ u v : Nat, xv = .int .i64 (u : Int) ∧ yv = .int .i64 (v : Int) ∧ Nat.gcd u v = Nat.gcd A B ∧ 0 < u + v ∧ u ≤ 4000000 ∧ v ≤ 4000000 ∧ Below w.heap.size w wr) (fun _ yv _ => (intOf yv).toNat)
  case atStart => exact ⟨_, _, rfl, rfl, rfl, by omega, by omega, by omega, (by repeat (first | exact Below.refl _ _ | assumption | refine Below.drew ?_ | refine below_drewN ?_ _ | refine Below.alloc ?_ (by first | omega | (simp; done) | (simp; omega)) _ | refine Below.setCell ?_ (by first | omega | (simp; done) | (simp; omega)) _ | refine Below.trans ?_ (Below.mono (by assumption) (by first | omega | (simp; done) | (simp; omega)))))⟩
  case round =>
    obtain ⟨u, v, rfl, rfl, hg, hs, hu, hv, hbr⟩ := hrel
    by_cases hlt : 0 < v
    · have hm : u % v < v := Nat.mod_lt _ hlt
      have e1 : ((u : Int).tmod (v : Int)) = ((u % v : Nat) : Int) := by
        rw [Int.tmod_eq_emod_of_nonneg (by omega)]; rfl
      have e2 : (u : Int) % (v : Int) = ((u % v : Nat) : Int) := rfl
      obtain ⟨r, hr⟩ : ∃ r, r = u % v := ⟨_, rfl⟩
      rw [← hr] at e1 e2 hm
      have z1 : ((v : Int) == 0) = false := by simp; omega
      have z2 : ¬ (v : Int) = 0 := by omega
      have z3 : (0 : Int) < (v : Int) := by omega
      have HG := Lib.hid hg
      have HR := Lib.hid hr
      clear hg hr
      go_wp2
      go_roundw
      case rel => exact ⟨v, r, rfl, rfl, by rw [HR.out, gcd_step]; exact HG.out, by omega, by omega, by omega, (by repeat (first | exact Below.refl _ _ | assumption | refine Below.drew ?_ | refine below_drewN ?_ _ | refine Below.alloc ?_ (by first | omega | (simp; done) | (simp; omega)) _ | refine Below.setCell ?_ (by first | omega | (simp; done) | (simp; omega)) _ | refine Below.trans ?_ (Below.mono (by assumption) (by first | omega | (simp; done) | (simp; omega)))))⟩
      case measure => simp [intOf]; omega
    · obtain rfl : v = 0 := by omega
      rw [Nat.gcd_zero_right] at hg
      subst hg
      have g0 : 0 < Nat.gcd A B := by omega
      have b1 := Nat.div_le_self A (Nat.gcd A B)
      have b2 := Nat.div_le_self B (Nat.gcd A B)
      have t1 : (A : Int).tdiv (Nat.gcd A B : Nat) = qa := by rw [Int.tdiv_eq_ediv_of_nonneg (by omega), HQA.out]; rfl
      have t2 : (B : Int).tdiv (Nat.gcd A B : Nat) = qb := by rw [Int.tdiv_eq_ediv_of_nonneg (by omega), HQB.out]; rfl
      have r1 : 0 ≤ qa ∧ qa ≤ 4000000 := by
        have := HQA.out
        unfold lowN at this
        obtain ⟨c, hc⟩ : ∃ c : Nat, c = A / Nat.gcd A B := ⟨_, rfl⟩
        rw [← hc] at this b1
        omega
      have r2 : 0 ≤ qb ∧ qb ≤ 4000000 := by
        have := HQB.out
        unfold lowD at this
        obtain ⟨c, hc⟩ : ∃ c : Nat, c = B / Nat.gcd A B := ⟨_, rfl⟩
        rw [← hc] at this b2
        omega
      clear HQA HQB
      obtain ⟨g, hg⟩ : ∃ g, g = Nat.gcd A B := ⟨_, rfl⟩
      rw [← hg] at t1 t2 g0 hu ⊢
      clear hg hs hv b1 b2
      have z1 : ((g : Int) == 0) = false := by simp; omega
      have z2 : ¬ (g : Int) = 0 := by omega
      have v1 : wrap64 ((A : Int).tdiv (g : Int)) = qa := by rw [t1]; exact IntWalk.wrap64_in _ ⟨by omega, by omega⟩
      have v2 : wrap64 ((B : Int).tdiv (g : Int)) = qb := by rw [t2]; exact IntWalk.wrap64_in _ ⟨by omega, by omega⟩
      have v3 : IntKind.i64.wrap ((A : Int).tdiv (g : Int)) = qa := by rw [t1]; exact IntWalk.i64_in _ (by omega)
      have v4 : IntKind.i64.wrap ((B : Int).tdiv (g : Int)) = qb := by rw [t2]; exact IntWalk.i64_in _ (by omega)
      have t3 : (A : Int) / (g : Int) = qa := by rw [← t1, Int.tdiv_eq_ediv_of_nonneg (by omega)]
      have t4 : (B : Int) / (g : Int) = qb := by rw [← t2, Int.tdiv_eq_ediv_of_nonneg (by omega)]
      have v5 : wrap64 ((A : Int) / (g : Int)) = qa := by rw [t3]; exact IntWalk.wrap64_in _ ⟨by omega, by omega⟩
      have v6 : wrap64 ((B : Int) / (g : Int)) = qb := by rw [t4]; exact IntWalk.wrap64_in _ ⟨by omega, by omega⟩
      clear t3 t4
      clear hA hB hB0 r1 r2 hu g0 t1 t2
      go_wp2
      go_quiet (fail)
      go_wp2
      first | exact bodyPost_ret (v := .tuple #[.int .i64 qa, .int .i64 qb]) (by simp [results, Try.results56, go_sem, *]) rfl ⟨rfl, (by repeat (first | exact Below.refl _ _ | assumption | refine Below.drew ?_ | refine below_drewN ?_ _ | refine Below.alloc ?_ (by first | omega | (simp; done) | (simp; omega)) _ | refine Below.setCell ?_ (by first | omega | (simp; done) | (simp; omega)) _ | refine Below.trans ?_ (Below.mono (by assumption) (by first | omega | (simp; done) | (simp; omega)))))⟩

end Go.Proofs.Ytjojjmmdgldcbaa
