/- The small functions on spots: what each call does, one contract a function. No conditions but those written in each theorem. -/
import Derived.Test.YthmgbfnjkiehcaaRows
import Derived.WalkKit
import Derived.WalkSpells
import Derived.WalkLawsBesides
import Derived.Deep.QuietTactic
import Derived.BigQuiet
import Derived.Lib.Hide
namespace Go.Proofs.Ythmgbfnjkiehcaa
open Go.RowKit

theorem below_drewN {B : Nat} {a w : World} (h : Below B a w) (n : Nat) : Below B a (w.drewN n) := ⟨h.os, h.tape, h.output, h.size, h.block⟩
theorem bcell {W w1 : World} (hb : Below W.heap.size W w1) : (∀ b o, b < W.heap.size → w1.cell? ⟨b, o, none⟩ = W.cell? ⟨b, o, none⟩) ∧ (∀ b o, b < W.heap.size → w1.frozen? ⟨b, o, none⟩ = W.frozen? ⟨b, o, none⟩) ∧ (∀ b, b < W.heap.size → b < w1.heap.size) :=
  ⟨fun b o h => hb.cell (p := ⟨b, o, none⟩) h, fun b o h => hb.frozen (p := ⟨b, o, none⟩) h, fun _ h => Nat.lt_of_lt_of_le h hb.size⟩

theorem bcellN {W w1 : World} (N : Nat) (hb : Below W.heap.size W w1) (hN : N ≤ W.heap.size) : (∀ b o, b < N → w1.cell? ⟨b, o, none⟩ = W.cell? ⟨b, o, none⟩) ∧ (∀ b o, b < N → w1.frozen? ⟨b, o, none⟩ = W.frozen? ⟨b, o, none⟩) ∧ (∀ b, b < N → b < w1.heap.size) :=
  ⟨fun b o h => hb.cell (p := ⟨b, o, none⟩) (Nat.lt_of_lt_of_le h hN), fun b o h => hb.frozen (p := ⟨b, o, none⟩) (Nat.lt_of_lt_of_le h hN), fun _ h => Nat.lt_of_lt_of_le (Nat.lt_of_lt_of_le h hN) hb.size⟩

theorem bneN {N : Nat} {w1 : World} (h : ∀ b, b < N → b < w1.heap.size) : (∀ b, b < N → ¬ w1.heap.size = b) ∧ (∀ b, b < N → ¬ b = w1.heap.size) :=
  ⟨fun b hb => by have := h b hb; omega, fun b hb => by have := h b hb; omega⟩
theorem bne {W w1 : World} (hb : Below W.heap.size W w1) : (∀ b, b < W.heap.size → ¬ w1.heap.size = b) ∧ (∀ b, b < W.heap.size → ¬ b = w1.heap.size) := bneN (bcell hb).2.2

theorem call_facts {N : Nat} {w0 W w1 : World} (h : ∀ b, b < N → b < w0.heap.size) (hb : Below W.heap.size W w1) (hw : w0.heap.size ≤ W.heap.size) :
    (∀ b, b < N → b < w1.heap.size) ∧ (∀ b, b < N → b ≤ w1.heap.size) ∧ (∀ b, b < N → ¬ w1.heap.size = b) ∧ (∀ b, b < N → ¬ b = w1.heap.size) ∧
      (∀ b o, b < N → w1.cell? ⟨b, o, none⟩ = W.cell? ⟨b, o, none⟩) ∧ (∀ b o, b < N → w1.frozen? ⟨b, o, none⟩ = W.frozen? ⟨b, o, none⟩) := by
  have hlt : ∀ b, b < N → b < W.heap.size := fun b hn => Nat.lt_of_lt_of_le (h b hn) hw
  have hlt' : ∀ b, b < N → b < w1.heap.size := fun b hn => Nat.lt_of_lt_of_le (hlt b hn) hb.size
  exact ⟨hlt', fun b hn => Nat.le_of_lt (hlt' b hn), fun b hn => by have := hlt' b hn; omega, fun b hn => by have := hlt' b hn; omega,
    fun b o hn => hb.cell (p := ⟨b, o, none⟩) (hlt b hn), fun b o hn => hb.frozen (p := ⟨b, o, none⟩) (hlt b hn)⟩
theorem base_facts (w1 : World) : (∀ b, b < w1.heap.size → b ≤ w1.heap.size) ∧ (∀ b, b < w1.heap.size → ¬ w1.heap.size = b) ∧ (∀ b, b < w1.heap.size → ¬ b = w1.heap.size) :=
  ⟨fun b h => by omega, fun b h => by omega, fun b h => by omega⟩
theorem nadd : (∀ n : Nat, ¬ (n + 1 + 1 = n)) ∧ (∀ n : Nat, ¬ (n + 1 + 1 + 1 = n)) ∧ (∀ n : Nat, ¬ (n = n + 1 + 1)) ∧ (∀ n : Nat, ¬ (n = n + 1 + 1 + 1)) ∧ (∀ n : Nat, n < n + 1 + 1) ∧ (∀ n : Nat, n < n + 1 + 1 + 1) ∧ (∀ n : Nat, n < n + 1 + 1 + 1 + 1) := by
  refine ⟨?_, ?_, ?_, ?_, ?_, ?_, ?_⟩ <;> (intro n; omega)

/-- A number if a condition holds, else 0. -/
def guardI (b : Bool) (n : Int) : Int := if b then n else 0

/-- A number within bounds. -/
def inB (lo n hi : Int) : Bool := decide (lo ≤ n ∧ n ≤ hi)
theorem inB_iff {lo n hi : Int} : inB lo n hi = true ↔ lo ≤ n ∧ n ≤ hi := by simp [inB]
/-- Is the spot on the field? -/
def onField (x y : Int) : Bool := inB 0 x 1280 && inB 0 y 672
theorem onField_iff {x y : Int} : onField x y = true ↔ (0 ≤ x ∧ x ≤ 1280) ∧ (0 ≤ y ∧ y ≤ 672) := by simp [onField, inB]
theorem onField_mk {x y : Int} {a b : Bool} (ha : inB 0 x 1280 = a) (hb : inB 0 y 672 = b) : onField x y = (a && b) := by rw [onField, ha, hb]
theorem onField_mk1 {x y : Int} (ha : inB 0 x 1280 = false) : onField x y = false := by rw [onField, ha]; rfl

set_option maxHeartbeats 400000 in
theorem l1In_any (n lo hi : Int) (w : World) :
    Calls Try.prog 47 #[.int .i64 n, .int .i64 lo, .int .i64 hi] w fun e w' => e = .returned (.bool (inB lo n hi)) ∧ w = w' := by
  by_cases h : lo ≤ n <;> by_cases h2 : n ≤ hi
  all_goals
    go_enter Try.func47, Try.ntmps47
    go_wp2
    go_ret
    exact ⟨by (have hh : inB lo n hi = decide (lo ≤ n ∧ n ≤ hi) := rfl); simp [hh]; try omega, rfl⟩

set_option maxHeartbeats 400000 in
theorem inRange_any (n lo hi : Int) (w : World) :
    Calls Try.prog 43 #[.int .i64 n, .int .i64 lo, .int .i64 hi] w fun e w' => e = .returned (.bool (inB lo n hi)) ∧ w = w' := by
  by_cases h : lo ≤ n <;> by_cases h2 : n ≤ hi
  all_goals
    go_enter Try.func43, Try.ntmps43
    go_wp2
    go_ret
    exact ⟨by (have hh : inB lo n hi = decide (lo ≤ n ∧ n ≤ hi) := rfl); simp [hh]; try omega, rfl⟩

set_option maxHeartbeats 400000 in
theorem stGood_any (x y : Int) (w : World) :
    Calls Try.prog 42 #[.agg #[.int .i64 x, .int .i64 y]] w fun e w' => e = .returned (.bool (onField x y)) ∧ Below w.heap.size w w' := by
  cases h1 : inB 0 x 1280
  · have e0 := onField_mk1 (y := y) h1
    go_enter Try.func42, Try.ntmps42
    go_wp2_with (go_at_call 47; refine (l1In_any _ _ _ _).mono ?_; rintro e w' ⟨rfl, rfl⟩)
    go_ret
    exact ⟨by rw [e0]; rfl, (by repeat (first | exact Below.refl _ _ | assumption | refine Below.drew ?_ | refine below_drewN ?_ _ | refine Below.alloc ?_ (by first | omega | (simp; done) | (simp; omega)) _ | refine Below.setCell ?_ (by first | omega | (simp; done) | (simp; omega)) _ | refine Below.trans ?_ (Below.mono (by assumption) (by first | omega | (simp; done) | (simp; omega)))))⟩
  · cases h2 : inB 0 y 672
    all_goals
      have e0 := onField_mk h1 h2
      go_enter Try.func42, Try.ntmps42
      go_wp2_with (go_at_call 47; refine (l1In_any _ _ _ _).mono ?_; rintro e w' ⟨rfl, rfl⟩)
      go_ret
      exact ⟨by rw [e0]; rfl, (by repeat (first | exact Below.refl _ _ | assumption | refine Below.drew ?_ | refine below_drewN ?_ _ | refine Below.alloc ?_ (by first | omega | (simp; done) | (simp; omega)) _ | refine Below.setCell ?_ (by first | omega | (simp; done) | (simp; omega)) _ | refine Below.trans ?_ (Below.mono (by assumption) (by first | omega | (simp; done) | (simp; omega)))))⟩

set_option maxHeartbeats 400000 in
theorem isSpot_any (x y : Int) (w : World) :
    Calls Try.prog 15 #[.agg #[.int .i64 x, .int .i64 y]] w fun e w' => e = .returned (.bool (onField x y)) ∧ Below w.heap.size w w' := by
  cases h1 : inB 0 x 1280
  · have e0 := onField_mk1 (y := y) h1
    go_enter Try.func15, Try.ntmps15
    go_wp2_with (go_at_call 43; refine (inRange_any _ _ _ _).mono ?_; rintro e w' ⟨rfl, rfl⟩)
    go_ret
    exact ⟨by rw [e0]; rfl, (by repeat (first | exact Below.refl _ _ | assumption | refine Below.drew ?_ | refine below_drewN ?_ _ | refine Below.alloc ?_ (by first | omega | (simp; done) | (simp; omega)) _ | refine Below.setCell ?_ (by first | omega | (simp; done) | (simp; omega)) _ | refine Below.trans ?_ (Below.mono (by assumption) (by first | omega | (simp; done) | (simp; omega)))))⟩
  · cases h2 : inB 0 y 672
    all_goals
      have e0 := onField_mk h1 h2
      go_enter Try.func15, Try.ntmps15
      go_wp2_with (go_at_call 43; refine (inRange_any _ _ _ _).mono ?_; rintro e w' ⟨rfl, rfl⟩)
      go_ret
      exact ⟨by rw [e0]; rfl, (by repeat (first | exact Below.refl _ _ | assumption | refine Below.drew ?_ | refine below_drewN ?_ _ | refine Below.alloc ?_ (by first | omega | (simp; done) | (simp; omega)) _ | refine Below.setCell ?_ (by first | omega | (simp; done) | (simp; omega)) _ | refine Below.trans ?_ (Below.mono (by assumption) (by first | omega | (simp; done) | (simp; omega)))))⟩

set_option maxHeartbeats 400000 in
theorem specIsSpot_any (x y : Int) (w : World) :
    Calls Try.prog 13 #[.agg #[.int .i64 x, .int .i64 y]] w fun e w' => e = .returned (.bool (onField x y)) ∧ Below w.heap.size w w' := by
  go_enter Try.func13, Try.ntmps13
  go_wp2_with (go_at_call 42; go_must (refine (stGood_any _ _ _).mono ?_; rintro e w1 ⟨rfl, hb1⟩; have hs1 := hb1.size; (try simp at hs1); obtain ⟨hc1, hf1, hl1⟩ := bcellN (w.heap.size + 1) hb1 (by first | omega | (simp; done) | (simp; omega))))
  go_ret
  exact ⟨rfl, (by repeat (first | exact Below.refl _ _ | assumption | refine Below.drew ?_ | refine below_drewN ?_ _ | refine Below.alloc ?_ (by first | omega | (simp; done) | (simp; omega)) _ | refine Below.setCell ?_ (by first | omega | (simp; done) | (simp; omega)) _ | refine Below.trans ?_ (Below.mono (by assumption) (by first | omega | (simp; done) | (simp; omega)))))⟩

set_option maxHeartbeats 400000 in
theorem toSpot_any (x y : Int) (w : World) :
    Calls Try.prog 14 #[.agg #[.int .i64 x, .int .i64 y]] w fun e w' => e = .returned (.agg #[.int .i64 x, .int .i64 y]) ∧ Below w.heap.size w w' := by
  go_enter Try.func14, Try.ntmps14
  go_wp2
  exact bodyPost_ret (v := .agg #[.int .i64 x, .int .i64 y]) (by simp [results, Try.results14, go_sem]) rfl ⟨rfl, (by repeat (first | exact Below.refl _ _ | assumption | refine Below.drew ?_ | refine below_drewN ?_ _ | refine Below.alloc ?_ (by first | omega | (simp; done) | (simp; omega)) _ | refine Below.setCell ?_ (by first | omega | (simp; done) | (simp; omega)) _ | refine Below.trans ?_ (Below.mono (by assumption) (by first | omega | (simp; done) | (simp; omega)))))⟩

set_option maxHeartbeats 400000 in
theorem eqSpot_same (x y : Int) (w : World) :
    Calls Try.prog 20 #[.agg #[.int .i64 x, .int .i64 y], .agg #[.int .i64 x, .int .i64 y]] w fun e w' => e = .returned (.bool true) ∧ Below w.heap.size w w' := by
  go_enter Try.func20, Try.ntmps20
  go_wp2
  go_ret
  exact ⟨rfl, (by repeat (first | exact Below.refl _ _ | assumption | refine Below.drew ?_ | refine below_drewN ?_ _ | refine Below.alloc ?_ (by first | omega | (simp; done) | (simp; omega)) _ | refine Below.setCell ?_ (by first | omega | (simp; done) | (simp; omega)) _ | refine Below.trans ?_ (Below.mono (by assumption) (by first | omega | (simp; done) | (simp; omega)))))⟩

set_option maxHeartbeats 400000 in
theorem stTwo_any (x1 y1 x2 y2 : Int) (w : World) :
    Calls Try.prog 44 #[.agg #[.int .i64 x1, .int .i64 y1], .agg #[.int .i64 x2, .int .i64 y2]] w fun e w' => e = .returned (.bool (onField x1 y1 && onField x2 y2)) ∧ Below w.heap.size w w' := by
  cases h1 : onField x1 y1 <;> cases h2 : onField x2 y2
  all_goals
    go_enter Try.func44, Try.ntmps44
    go_wp2_with (go_at_call 42; go_must (refine (stGood_any _ _ _).mono ?_; rintro e w1 ⟨rfl, hb1⟩; have hs1 := hb1.size; (try simp at hs1); obtain ⟨hc1, hf1, hl1⟩ := bcellN (w.heap.size + 2) hb1 (by first | omega | (simp; done) | (simp; omega))))
    go_ret
    exact ⟨rfl, (by repeat (first | exact Below.refl _ _ | assumption | refine Below.drew ?_ | refine below_drewN ?_ _ | refine Below.alloc ?_ (by first | omega | (simp; done) | (simp; omega)) _ | refine Below.setCell ?_ (by first | omega | (simp; done) | (simp; omega)) _ | refine Below.trans ?_ (Below.mono (by assumption) (by first | omega | (simp; done) | (simp; omega)))))⟩

end Go.Proofs.Ythmgbfnjkiehcaa
