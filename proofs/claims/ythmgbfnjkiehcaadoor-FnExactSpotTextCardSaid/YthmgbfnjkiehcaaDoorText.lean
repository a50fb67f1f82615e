/- The text of a spot: what each call does. No conditions but those written in each theorem. -/
import Derived.Test.YthmgbfnjkiehcaaDoorRows
import Derived.WalkKit
import Derived.WalkSpells
import Derived.WalkLawsBesides
import Derived.Deep.QuietTactic
import Derived.BigQuiet
import Derived.Lib.Hide
import Derived.Lib.ItoaNum
import Derived.Lib.ItoaMem
import Derived.IntWalk
import Derived.Lib.ItoaLen
import Derived.Deep.RegionHeld3
import Derived.Deep.DrawnRows
namespace Go.Proofs.YthmgbfnjkiehcaaDoor
open Go.RowKit

theorem below_drewN {B : Nat} {a w : World} (h : Below B a w) (n : Nat) : Below B a (w.drewN n) := ⟨h.os, h.tape, h.output, h.size, h.block⟩
theorem bcell {W w1 : World} (hb : Below W.heap.size W w1) : (∀ b o, b < W.heap.size → w1.cell? ⟨b, o, none⟩ = W.cell? ⟨b, o, none⟩) ∧ (∀ b o, b < W.heap.size → w1.frozen? ⟨b, o, none⟩ = W.frozen? ⟨b, o, none⟩) ∧ (∀ b, b < W.heap.size → b < w1.heap.size) :=
  ⟨fun b o h => hb.cell (p := ⟨b, o, none⟩) h, fun b o h => hb.frozen (p := ⟨b, o, none⟩) h, fun _ h => Nat.lt_of_lt_of_le h hb.size⟩

theorem bcellN {W w1 : World} (N : Nat) (hb : Below W.heap.size W w1) (hN : N ≤ W.heap.size) : (∀ b o, b < N → w1.cell? ⟨b, o, none⟩ = W.cell? ⟨b, o, none⟩) ∧ (∀ b o, b < N → w1.frozen? ⟨b, o, none⟩ = W.frozen? ⟨b, o, none⟩) ∧ (∀ b, b < N → b < w1.heap.size) :=
  ⟨fun b o h => hb.cell (p := ⟨b, o, none⟩) (Nat.lt_of_lt_of_le h hN), fun b o h => hb.frozen (p := ⟨b, o, none⟩) (Nat.lt_of_lt_of_le h hN), fun _ h => Nat.lt_of_lt_of_le (Nat.lt_of_lt_of_le h hN) hb.size⟩

theorem bneN {N : Nat} {w1 : World} (h : ∀ b, b < N → b < w1.heap.size) : (∀ b, b < N → ¬ w1.heap.size = b) ∧ (∀ b, b < N → ¬ b = w1.heap.size) :=
  ⟨fun b hb => by have := h b hb; omega, fun b hb => by have := h b hb; omega⟩
theorem bne {W w1 : World} (hb : Below W.heap.size W w1) : (∀ b, b < W.heap.size → ¬ w1.heap.size = b) ∧ (∀ b, b < W.heap.size → ¬ b = w1.heap.size) := bneN (bcell hb).2.2

theorem call_facts {N : Nat} {w0 W w1 : World} (h : ∀ b, b < N → b < w0.heap.size) (hb : Below W.heap.size W w1) (hw : w0.heap.size ≤ W.heap.size) :
    (∀ b, b < N → b < w1.heap.size) ∧ (∀ b, b < N → b ≤ w1.heap.size) ∧ (∀ b, b < N → ¬ w1.heap.size = b) ∧ (∀ b, b < N → ¬ b = w1.heap.size) ∧
      (∀ b o, b < N → w1.cell? ⟨b, o, none⟩ = W.cell? ⟨b, o, none⟩) ∧ (∀ b o, b < N → w1.frozen? ⟨b, o, none⟩ = W.frozen? ⟨b, o, none⟩) := by
  have hlt : ∀ b, b < N → b < W.heap.size := fun b hn => Nat.lt_of_lt_of_le (h b hn) hw
  have hlt' : ∀ b, b < N → b < w1.heap.size := fun b hn => Nat.lt_of_lt_of_le (hlt b hn) hb.size
  exact ⟨hlt', fun b hn => Nat.le_of_lt (hlt' b hn), fun b hn => by have := hlt' b hn; omega, fun b hn => by have := hlt' b hn; omega,
    fun b o hn => hb.cell (p := ⟨b, o, none⟩) (hlt b hn), fun b o hn => hb.frozen (p := ⟨b, o, none⟩) (hlt b hn)⟩
theorem base_facts (w1 : World) : (∀ b, b < w1.heap.size → b ≤ w1.heap.size) ∧ (∀ b, b < w1.heap.size → ¬ w1.heap.size = b) ∧ (∀ b, b < w1.heap.size → ¬ b = w1.heap.size) :=
  ⟨fun b h => by omega, fun b h => by omega, fun b h => by omega⟩
theorem nadd : (∀ n : Nat, ¬ (n + 1 + 1 = n)) ∧ (∀ n : Nat, ¬ (n + 1 + 1 + 1 = n)) ∧ (∀ n : Nat, ¬ (n = n + 1 + 1)) ∧ (∀ n : Nat, ¬ (n = n + 1 + 1 + 1)) ∧ (∀ n : Nat, n < n + 1 + 1) ∧ (∀ n : Nat, n < n + 1 + 1 + 1) ∧ (∀ n : Nat, n < n + 1 + 1 + 1 + 1) := by
  refine ⟨?_, ?_, ?_, ?_, ?_, ?_, ?_⟩ <;> (intro n; omega)

/-- A number if a condition holds, else 0. -/
def guardI (b : Bool) (n : Int) : Int := if b then n else 0

/-- A number within bounds. -/
def inB (lo n hi : Int) : Bool := decide (lo ≤ n ∧ n ≤ hi)
theorem inB_iff {lo n hi : Int} : inB lo n hi = true ↔ lo ≤ n ∧ n ≤ hi := by simp [inB]
/-- Is the spot on the field? -/
def onField (x y : Int) : Bool := inB 0 x 1280 && inB 0 y 672
theorem onField_iff {x y : Int} : onField x y = true ↔ (0 ≤ x ∧ x ≤ 1280) ∧ (0 ≤ y ∧ y ≤ 672) := by simp [onField, inB]
theorem onField_mk {x y : Int} {a b : Bool} (ha : inB 0 x 1280 = a) (hb : inB 0 y 672 = b) : onField x y = (a && b) := by rw [onField, ha, hb]
theorem onField_mk1 {x y : Int} (ha : inB 0 x 1280 = false) : onField x y = false := by rw [onField, ha]; rfl
set_option maxHeartbeats 400000 in
theorem l1In_any (n lo hi : Int) (w : World) :
    Calls Tryd.prog 11 #[.int .i64 n, .int .i64 lo, .int .i64 hi] w fun e w' => e = .returned (.bool (inB lo n hi)) ∧ w = w' := by
  by_cases h : lo ≤ n <;> by_cases h2 : n ≤ hi
  all_goals
    go_enter Tryd.func11, Tryd.ntmps11
    go_wp2
    go_ret
    exact ⟨by (have hh : inB lo n hi = decide (lo ≤ n ∧ n ≤ hi) := rfl); simp [hh]; try omega, rfl⟩

set_option maxHeartbeats 400000 in
theorem inRange_any (n lo hi : Int) (w : World) :
    Calls Tryd.prog 13 #[.int .i64 n, .int .i64 lo, .int .i64 hi] w fun e w' => e = .returned (.bool (inB lo n hi)) ∧ w = w' := by
  by_cases h : lo ≤ n <;> by_cases h2 : n ≤ hi
  all_goals
    go_enter Tryd.func13, Tryd.ntmps13
    go_wp2
    go_ret
    exact ⟨by (have hh : inB lo n hi = decide (lo ≤ n ∧ n ≤ hi) := rfl); simp [hh]; try omega, rfl⟩

set_option maxHeartbeats 400000 in
theorem stGood_any (x y : Int) (w : World) :
    Calls Tryd.prog 7 #[.agg #[.int .i64 x, .int .i64 y]] w fun e w' => e = .returned (.bool (onField x y)) ∧ Below w.heap.size w w' := by
  cases h1 : inB 0 x 1280
  · have e0 := onField_mk1 (y := y) h1
    go_enter Tryd.func7, Tryd.ntmps7
    go_wp2_with (go_at_call 11; refine (l1In_any _ _ _ _).mono ?_; rintro e w' ⟨rfl, rfl⟩)
    go_ret
    exact ⟨by rw [e0]; rfl, (by repeat (first | exact Below.refl _ _ | assumption | refine Below.drew ?_ | refine below_drewN ?_ _ | refine Below.alloc ?_ (by first | omega | (simp; done) | (simp; omega)) _ | refine Below.setCell ?_ (by first | omega | (simp; done) | (simp; omega)) _ | refine Below.trans ?_ (Below.mono (by assumption) (by first | omega | (simp; done) | (simp; omega)))))⟩
  · cases h2 : inB 0 y 672
    all_goals
      have e0 := onField_mk h1 h2
      go_enter Tryd.func7, Tryd.ntmps7
      go_wp2_with (go_at_call 11; refine (l1In_any _ _ _ _).mono ?_; rintro e w' ⟨rfl, rfl⟩)
      go_ret
      exact ⟨by rw [e0]; rfl, (by repeat (first | exact Below.refl _ _ | assumption | refine Below.drew ?_ | refine below_drewN ?_ _ | refine Below.alloc ?_ (by first | omega | (simp; done) | (simp; omega)) _ | refine Below.setCell ?_ (by first | omega | (simp; done) | (simp; omega)) _ | refine Below.trans ?_ (Below.mono (by assumption) (by first | omega | (simp; done) | (simp; omega)))))⟩

set_option maxHeartbeats 400000 in
theorem isSpot_any (x y : Int) (w : World) :
    Calls Tryd.prog 9 #[.agg #[.int .i64 x, .int .i64 y]] w fun e w' => e = .returned (.bool (onField x y)) ∧ Below w.heap.size w w' := by
  cases h1 : inB 0 x 1280
  · have e0 := onField_mk1 (y := y) h1
    go_enter Tryd.func9, Tryd.ntmps9
    go_wp2_with (go_at_call 13; refine (inRange_any _ _ _ _).mono ?_; rintro e w' ⟨rfl, rfl⟩)
    go_ret
    exact ⟨by rw [e0]; rfl, (by repeat (first | exact Below.refl _ _ | assumption | refine Below.drew ?_ | refine below_drewN ?_ _ | refine Below.alloc ?_ (by first | omega | (simp; done) | (simp; omega)) _ | refine Below.setCell ?_ (by first | omega | (simp; done) | (simp; omega)) _ | refine Below.trans ?_ (Below.mono (by assumption) (by first | omega | (simp; done) | (simp; omega)))))⟩
  · cases h2 : inB 0 y 672
    all_goals
      have e0 := onField_mk h1 h2
      go_enter Tryd.func9, Tryd.ntmps9
      go_wp2_with (go_at_call 13; refine (inRange_any _ _ _ _).mono ?_; rintro e w' ⟨rfl, rfl⟩)
      go_ret
      exact ⟨by rw [e0]; rfl, (by repeat (first | exact Below.refl _ _ | assumption | refine Below.drew ?_ | refine below_drewN ?_ _ | refine Below.alloc ?_ (by first | omega | (simp; done) | (simp; omega)) _ | refine Below.setCell ?_ (by first | omega | (simp; done) | (simp; omega)) _ | refine Below.trans ?_ (Below.mono (by assumption) (by first | omega | (simp; done) | (simp; omega)))))⟩

set_option maxHeartbeats 400000 in
theorem toSpot_any (x y : Int) (w : World) :
    Calls Tryd.prog 5 #[.agg #[.int .i64 x, .int .i64 y]] w fun e w' => e = .returned (.agg #[.int .i64 x, .int .i64 y]) ∧ Below w.heap.size w w' := by
  go_enter Tryd.func5, Tryd.ntmps5
  go_wp2
  exact bodyPost_ret (v := .agg #[.int .i64 x, .int .i64 y]) (by simp [results, Tryd.results5, go_sem]) rfl ⟨rfl, (by repeat (first | exact Below.refl _ _ | assumption | refine Below.drew ?_ | refine below_drewN ?_ _ | refine Below.alloc ?_ (by first | omega | (simp; done) | (simp; omega)) _ | refine Below.setCell ?_ (by first | omega | (simp; done) | (simp; omega)) _ | refine Below.trans ?_ (Below.mono (by assumption) (by first | omega | (simp; done) | (simp; omega)))))⟩


attribute [local go_sem ↓] Go.wp_at_zero Go.wp_at_succ

def decT (n : Nat) : ByteArray := ⟨(Lib.decDigits n).toArray⟩

/-- One digit. -/
def digS (n : Nat) : ByteArray := ⟨#[UInt8.ofNat (48 + n)]⟩
theorem decT_small (n : Nat) (h : n < 10) : decT n = digS n := by
  unfold decT digS
  rw [Lib.decDigits, dif_pos h]
theorem decT_step (n : Nat) (h : ¬ n < 10) : decT n = decT (n / 10) ++ digS (n % 10) := by
  unfold decT digS
  rw [Lib.decDigits, dif_neg h]
  apply ByteArray.ext
  rw [ByteArray.data_append]
  simp
theorem conv_digit (n : Nat) (h : n < 10) (W : World) (b : Nat) (hc : W.cell? ⟨b, 0, none⟩ = some (.int .u8 (48 + (n : Int)))) :
    (convert 33 9 (.slice (some ⟨b, 0, none⟩) 1 1)).run Tryd.prog W = .ok (.string (digS n)) W := by
  have e : (UInt8.ofNat (48 + n)).toNat = 48 + n := by
    rw [UInt8.toNat_ofNat']
    omega
  refine run_convert_bytes_back _ _ _ 5 ⟨b, 0, none⟩ 1 [UInt8.ofNat (48 + n)] Tryd.underlying33 Tryd.underlying5 Tryd.underlying9 ?_
  intro j hj
  match j, hj with
  | 0, _ =>
    simp only [Addr.add, List.getElem_cons_zero, e]
    simpa using hc
set_option maxHeartbeats 1000000 in
theorem l1Num_small (n : Nat) (h : n < 10) (w : World) :
    Calls Tryd.prog 15 #[.int .i64 n] w fun e w' => e = .returned (.string (decT n)) ∧ Below w.heap.size w w' := by
  have hcv := conv_digit n h
  have e0 := decT_small n h
  have E0 := Lib.hid e0
  clear e0
  go_enter Tryd.func15, Tryd.ntmps15
  go_wp2
  go_ret
  exact ⟨by rw [E0.out]; rfl, (by repeat (first | exact Below.refl _ _ | assumption | refine Below.drew ?_ | refine below_drewN ?_ _ | refine Below.alloc ?_ (by first | omega | (simp; done) | (simp; omega)) _ | refine Below.setCell ?_ (by first | omega | (simp; done) | (simp; omega)) _ | refine Below.trans ?_ (Below.mono (by assumption) (by first | omega | (simp; done) | (simp; omega)))))⟩

theorem decT_size (n : Nat) (h : n ≤ 1000000) : (decT n).size ≤ 30 := by
  have := Lib.itoa_length_le (n : Int) (by omega) (by omega)
  rw [Lib.itoa_nonneg] at this
  have e : (decT n).size = (Lib.decDigits n).length := by unfold decT; simp [ByteArray.size]
  omega
theorem digS_size (n : Nat) : (digS n).size = 1 := rfl
set_option maxHeartbeats 1000000 in
theorem l1Num_big (n : Nat) (h : ¬ n < 10) (hn : n ≤ 1000000) (ih : ∀ w : World, Calls Tryd.prog 15 #[.int .i64 (n / 10 : Nat)] w fun e w' => e = .returned (.string (decT (n / 10))) ∧ Below w.heap.size w w') (w : World) :
    Calls Tryd.prog 15 #[.int .i64 n] w fun e w' => e = .returned (.string (decT n)) ∧ Below w.heap.size w w' := by
  have hcv := conv_digit (n % 10) (by omega)
  have c1 : ((n / 10 : Nat) : Int) = (n : Int) / 10 := by omega
  have c2 : ((n % 10 : Nat) : Int) = (n : Int) % 10 := by omega
  rw [c1] at ih
  simp only [c2] at hcv
  clear c1 c2
  have IH := Lib.hid ih
  clear ih
  have e0 := decT_step n h
  have E0 := Lib.hid e0
  clear e0
  have s1 := decT_size (n / 10) (by omega)
  have s2 := digS_size (n % 10)
  have s3 : (digS (n % 10)).size ≤ 1 := by omega
  clear s2
  go_enter Tryd.func15, Tryd.ntmps15
  have v1 : IntKind.i64.wrap ((n : Int) / 10) = (n : Int) / 10 := IntWalk.i64_in _ (by omega)
  have v2 : ((n : Int)).tmod 10 = (n : Int) % 10 := Int.tmod_eq_emod_of_nonneg (by omega)
  have v3 : IntKind.i64.wrap (48 + (n : Int) % 10) = 48 + (n : Int) % 10 := IntWalk.i64_in _ (by omega)
  have v4 : IntKind.u8.wrap (48 + (n : Int) % 10) = 48 + (n : Int) % 10 := by
    have hb : 0 ≤ 48 + (n : Int) % 10 ∧ 48 + (n : Int) % 10 ≤ 255 := by omega
    exact IntWalk.u8_in _ hb
  go_wp2
  go_region_with ((go_at_call 15; (refine (IH.out _).mono ?_; rintro e w1 ⟨rfl, hb1⟩; have hs1 := hb1.size; (try simp at hs1); (first | have hk4 := call_facts hl3 hb1 (by simp) | skip); (first | have hk3 := call_facts hl2 hb1 (by simp) | skip); (first | have hk2 := call_facts hl1 hb1 (by simp) | skip); have hk1 := call_facts (fun b h => h) hb1 (Nat.le_refl _); (first | have hl4 := hk4.1 | skip); (first | have hl3 := hk3.1 | skip); (first | have hl2 := hk2.1 | skip); have hl1 := hk1.1)))
  all_goals
    clear v1 v2 v3 v4
    go_wp2
    go_ret
    exact ⟨by rw [E0.out]; rfl, (by repeat (first | exact Below.refl _ _ | assumption | refine Below.drew ?_ | refine below_drewN ?_ _ | refine Below.alloc ?_ (by first | omega | (simp; done) | (simp; omega)) _ | refine Below.setCell ?_ (by first | omega | (simp; done) | (simp; omega)) _ | refine Below.trans ?_ (Below.mono (by assumption) (by first | omega | (simp; done) | (simp; omega)))))⟩

theorem l1Num_nat : ∀ (n : Nat), n ≤ 1000000 → ∀ w : World, Calls Tryd.prog 15 #[.int .i64 n] w fun e w' => e = .returned (.string (decT n)) ∧ Below w.heap.size w w' := by
  intro n
  induction n using Nat.strongRecOn with
  | _ n ih =>
    intro hn w
    by_cases h : n < 10
    · exact l1Num_small n h w
    · exact l1Num_big n h hn (ih (n / 10) (by omega) (by omega)) w
theorem l1Num_any (m : Int) (h0 : 0 ≤ m) (h1 : m ≤ 1000000) (w : World) : Calls Tryd.prog 15 #[.int .i64 m] w fun e w' => e = .returned (.string (decT m.toNat)) ∧ Below w.heap.size w w' := by
  obtain ⟨n, rfl⟩ := Int.eq_ofNat_of_zero_le h0
  exact l1Num_nat n (by omega) w
/-- The text of a number of eighths. -/
def partT (x : Int) : ByteArray := if x % 8 = 0 then decT (x / 8).toNat else decT (x / 8).toNat ++ ⟨#[43]⟩ ++ decT (x % 8).toNat
theorem partT_whole {x : Int} (h : x % 8 = 0) : partT x = decT (x / 8).toNat := by unfold partT; rw [if_pos h]
theorem partT_rest {x : Int} (h : ¬ x % 8 = 0) : partT x = decT (x / 8).toNat ++ ⟨#[43]⟩ ++ decT (x % 8).toNat := by unfold partT; rw [if_neg h]
theorem partT_size (x : Int) (h0 : 0 ≤ x) (h1 : x ≤ 1280) : (partT x).size ≤ 61 := by
  have a1 := decT_size (x / 8).toNat (by omega)
  have a2 := decT_size (x % 8).toNat (by omega)
  by_cases h : x % 8 = 0
  · rw [partT_whole h]; omega
  · rw [partT_rest h, ByteArray.size_append, ByteArray.size_append]
    have : (⟨#[43]⟩ : ByteArray).size = 1 := rfl
    omega

set_option maxHeartbeats 1000000 in
theorem stPart_any (x : Int) (h0 : 0 ≤ x) (h1 : x ≤ 1280) (w : World) :
    Calls Tryd.prog 12 #[.int .i64 x] w fun e w' => e = .returned (.string (partT x)) ∧ Below w.heap.size w w' := by
  have s1 := decT_size (x / 8).toNat (by omega)
  have s2 := decT_size (x % 8).toNat (by omega)
  by_cases h : x % 8 = 0
  case' pos => have e0 := partT_whole h; have kb : (x % 8 == 0) = true := beq_iff_eq.2 h
  case' neg => have e0 := partT_rest h; have kb : (x % 8 == 0) = false := beq_eq_false_iff_ne.2 h
  all_goals have E0 := Lib.hid e0; clear e0
  all_goals
    go_enter Tryd.func12, Tryd.ntmps12
    go_wp2_with (first | (go_at_call 15; (refine (l1Num_any _ (by omega) (by omega) _).mono ?_; rintro e w1 ⟨rfl, hb1⟩; have hs1 := hb1.size; (try simp at hs1); (first | have hk4 := call_facts hl3 hb1 (by simp) | skip); (first | have hk3 := call_facts hl2 hb1 (by simp) | skip); (first | have hk2 := call_facts hl1 hb1 (by simp) | skip); have hk1 := call_facts (fun b h => h) hb1 (Nat.le_refl _); (first | have hl4 := hk4.1 | skip); (first | have hl3 := hk3.1 | skip); (first | have hl2 := hk2.1 | skip); have hl1 := hk1.1)))
    go_ret
    exact ⟨by rw [E0.out]; rfl, (by repeat (first | exact Below.refl _ _ | assumption | refine Below.drew ?_ | refine below_drewN ?_ _ | refine Below.alloc ?_ (by first | omega | (simp; done) | (simp; omega)) _ | refine Below.setCell ?_ (by first | omega | (simp; done) | (simp; omega)) _ | refine Below.trans ?_ (Below.mono (by assumption) (by first | omega | (simp; done) | (simp; omega)))))⟩

end Go.Proofs.YthmgbfnjkiehcaaDoor
