/- Changed forms: mathematics, and what the program's closures do. No conditions but those written in each theorem. -/
import Derived.Test.YtppnomflmacpkaaFmMid
import Derived.Deep.RegionHeld3
import Derived.Deep.DrawnRows
import Derived.IntWalk
import Derived.Laws.AppendOwn
import Derived.Deep.AppendLies
namespace Go.Proofs.Ytppnomflmacpkaa
open Go.RowKit


attribute [local go_sem ↓] Go.wp_at_zero Go.wp_at_succ

/-- The first k spots, their differences from the middle changed. -/
def chgTo (g : Int → Int → Int × Int) (l : List (Int × Int)) : Nat → List (Int × Int)
  | 0 => []
  | k + 1 => chgTo g l k ++ [(midX l + (g (sx l k - midX l) (sy l k - midY l)).1, midY l + (g (sx l k - midX l) (sy l k - midY l)).2)]
theorem chgTo_length (g : Int → Int → Int × Int) (l : List (Int × Int)) : ∀ k, (chgTo g l k).length = k
  | 0 => rfl
  | k + 1 => by rw [chgTo, List.length_append, chgTo_length g l k]; rfl
/-- Spread by a percent. -/
def sprG (p : Int) (x y : Int) : Int × Int := (rnd (x * p) 100, rnd (y * p) 100)
/-- Turned by quarters. -/
def rotG : Nat → Int → Int → Int × Int
  | 0, x, y => (x, y)
  | q + 1, x, y => (-(rotG q x y).2, (rotG q x y).1)
theorem rotG_bound {x y : Int} (h1 : -1280 ≤ x) (h2 : x ≤ 1280) (h3 : -1280 ≤ y) (h4 : y ≤ 1280) : ∀ q, (-1280 ≤ (rotG q x y).1 ∧ (rotG q x y).1 ≤ 1280) ∧ (-1280 ≤ (rotG q x y).2 ∧ (rotG q x y).2 ≤ 1280)
  | 0 => ⟨⟨h1, h2⟩, h3, h4⟩
  | q + 1 => by
    obtain ⟨⟨a, b⟩, c, d⟩ := rotG_bound h1 h2 h3 h4 q
    rw [rotG]
    exact ⟨⟨by omega, by omega⟩, a, b⟩
theorem spr_bound {x p : Int} (h1 : -1280 ≤ x) (h2 : x ≤ 1280) (p0 : 1 ≤ p) (p1 : p ≤ 400) : (-512000 ≤ x * p ∧ x * p ≤ 512000) ∧ (-512000 ≤ rnd (x * p) 100 ∧ rnd (x * p) 100 ≤ 512000) := by
  have h := mul_bound (a := x) (b := p) (A := 1280) (B := 400) (by omega) h1 h2 (by omega) p1
  have h3 := rnd_bound (n := x * p) (d := 100) (M := 512000) (by omega) (by omega) (by omega) (by omega)
  omega
def sprO (l : List (Int × Int)) (p : Int) : Bool := chOk l && inB 1 p 400
def sprL (l : List (Int × Int)) (p : Int) : List (Int × Int) := if sprO l p then chgTo (sprG p) l l.length else []
def trnO (l : List (Int × Int)) (q : Int) : Bool := chOk l && inB 0 q 3
def trnL (l : List (Int × Int)) (q : Int) : List (Int × Int) := if trnO l q then chgTo (rotG q.toNat) l l.length else []

set_option maxHeartbeats 1000000 in
theorem sprC_any (x y p : Int) (P : Nat) (x0 : -1280 ≤ x) (x1 : x ≤ 1280) (y0 : -1280 ≤ y) (y1 : y ≤ 1280) (p0 : 1 ≤ p) (p1 : p ≤ 400) {w : World} (hc : w.cell? ⟨P, 0, none⟩ = some (.int .i64 p)) :
    Calls Try.prog 57 #[.int .i64 x, .int .i64 y, .pointer (some ⟨P, 0, none⟩)] w fun e w' => e = .returned (.tuple #[.int .i64 (sprG p x y).1, .int .i64 (sprG p x y).2]) ∧ Below w.heap.size w w' := by
  obtain ⟨⟨a1, a2⟩, a3, a4⟩ := spr_bound x0 x1 p0 p1
  obtain ⟨⟨b1, b2⟩, b3, b4⟩ := spr_bound y0 y1 p0 p1
  have v1 : IntKind.i64.wrap (x * p) = x * p := IntWalk.i64_in _ (by omega)
  have v2 : IntKind.i64.wrap (y * p) = y * p := IntWalk.i64_in _ (by omega)
  have w1 : wrap64 (x * p) = x * p := IntWalk.wrap64_in _ ⟨by omega, by omega⟩
  have w2 : wrap64 (y * p) = y * p := IntWalk.wrap64_in _ ⟨by omega, by omega⟩
  have K1 := Lib.hid (fun W => roundedQuotient_any (x * p) 100 (by omega) (by omega) (by omega) (by omega) W)
  have K2 := Lib.hid (fun W => roundedQuotient_any (y * p) 100 (by omega) (by omega) (by omega) (by omega) W)
  go_enter Try.func57, Try.ntmps57
  go_wp2
  go_quiet ((first | (go_at_call 54; with_reducible exact Calls.quiet_of_same ((K1.out _).mono (fun _ _ h => ⟨h.1, h.2.symm⟩))) | (go_at_call 54; with_reducible exact Calls.quiet_of_same ((K2.out _).mono (fun _ _ h => ⟨h.1, h.2.symm⟩)))))
  go_wp2
  go_ret2
  exact ⟨rfl, (by repeat (first | exact Below.refl _ _ | assumption | refine Below.drew ?_ | refine below_drewN ?_ _ | refine Below.alloc ?_ (by first | omega | (simp; done) | (simp; omega)) _ | refine Below.setCell ?_ (by first | omega | (simp; done) | (simp; omega)) _ | refine Below.trans ?_ (Below.mono (by assumption) (by first | omega | (simp; done) | (simp; omega)))))⟩

set_option maxHeartbeats 1000000 in
theorem rotC_any (x y : Int) (q P : Nat) (x0 : -1280 ≤ x) (x1 : x ≤ 1280) (y0 : -1280 ≤ y) (y1 : y ≤ 1280) (q1 : q ≤ 3) {w : World} (hc : w.cell? ⟨P, 0, none⟩ = some (.int .i64 q)) :
    Calls Try.prog 58 #[.int .i64 x, .int .i64 y, .pointer (some ⟨P, 0, none⟩)] w fun e w' => e = .returned (.tuple #[.int .i64 (rotG q x y).1, .int .i64 (rotG q x y).2]) ∧ Below w.heap.size w w' := by
  go_enter Try.func58, Try.ntmps58
  go_wp2
  go_loop [0, 1, 8] (fun xs ys i => ∃ k : Nat, k ≤ q ∧ i = .int .i64 k ∧ xs = .int .i64 (rotG k x y).1 ∧ ys = .int .i64 (rotG k x y).2) (fun _ _ i => q - (intOf i).toNat)
  case atStart => exact ⟨0, Nat.zero_le _, rfl, rfl, rfl⟩
  case round =>
    obtain ⟨k, hk, rfl, rfl, rfl⟩ := hrel
    obtain ⟨⟨a1, a2⟩, a3, a4⟩ := rotG_bound x0 x1 y0 y1 k
    by_cases hlt : k < q
    · have h1 : (rotG (k + 1) x y).1 = -(rotG k x y).2 := rfl
      have h2 : (rotG (k + 1) x y).2 = (rotG k x y).1 := rfl
      have H1 := Lib.hid h1
      have H2 := Lib.hid h2
      clear h1 h2
      obtain ⟨X, hX⟩ : ∃ X, X = (rotG k x y).1 := ⟨_, rfl⟩
      obtain ⟨Y, hY⟩ : ∃ Y, Y = (rotG k x y).2 := ⟨_, rfl⟩
      rw [← hX] at H2 a1 a2 ⊢
      rw [← hY] at H1 a3 a4 ⊢
      clear hX hY
      have v1 : IntKind.i64.wrap (-Y) = -Y := IntWalk.i64_in _ (by omega)
      have w1 : wrap64 (-Y) = -Y := IntWalk.wrap64_in _ ⟨by omega, by omega⟩
      go_wp2
      go_round
      case rel => exact ⟨k + 1, by omega, by go_num, by rw [H1.out], by rw [H2.out]⟩
      case measure => simp [intOf]; omega
    · obtain rfl : k = q := by omega
      go_wp2
      go_ret2
      exact ⟨rfl, Below.refl _ _⟩

end Go.Proofs.Ytppnomflmacpkaa
