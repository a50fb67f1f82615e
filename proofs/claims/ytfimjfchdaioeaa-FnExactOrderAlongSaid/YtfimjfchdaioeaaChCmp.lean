/- Comparisons of numbers and of places. Conditions: those written in each theorem. -/
import Derived.Test.YtfimjfchdaioeaaChSrt
import Derived.Test.YtfimjfchdaioeaaChPlc
import Derived.Deep.RegionHeld3
import Derived.Deep.DrawnRows
import Derived.IntWalk
import Derived.StillTailTactics
import Derived.Deep.DeepCutAuto
import Derived.Deep.OwnRows
import Derived.Deep.MidRow
import Derived.Laws.Rows
import Derived.Lib.LazyBuf
import Derived.Lib.QuietBelow
namespace Go.Proofs.Ytfimjfchdaioeaa
open Go.RowKit
open Go.Sort (grow)


attribute [local go_sem ↓] Go.wp_at_zero Go.wp_at_succ

set_option maxHeartbeats 400000 in
theorem isNaN_any (a : Int) (w : World) : Calls Try.prog 126 #[.int .i64 a] w fun e w' => e = .returned (.bool false) ∧ w = w' := by
  go_enter Try.func126, Try.ntmps126
  go_wp2
  go_ret
  exact ⟨by simp, rfl⟩
set_option maxHeartbeats 1000000 in
theorem cmpInt_any (a b : Int) (w : World) : Calls Try.prog 105 #[.int .i64 a, .int .i64 b] w fun e w' => e = .returned (.int .i64 (cmpI a b)) ∧ w = w' := by
  rcases (show a < b ∨ b < a ∨ a = b by omega) with h | h | h
  · have e : cmpI a b = -1 := by unfold cmpI; rw [if_pos h]
    rw [e]
    go_enter Try.func105, Try.ntmps105
    go_wp2_with (go_at_call 126; (refine (isNaN_any _ _).mono ?_; rintro e w' ⟨rfl, rfl⟩))
    go_ret
    exact ⟨rfl, rfl⟩
  · have e : cmpI a b = 1 := by unfold cmpI; rw [if_neg (by omega), if_pos h]
    rw [e]
    have h2 : ¬ a < b := by omega
    go_enter Try.func105, Try.ntmps105
    go_wp2_with (go_at_call 126; (refine (isNaN_any _ _).mono ?_; rintro e w' ⟨rfl, rfl⟩))
    go_ret
    exact ⟨rfl, rfl⟩
  · subst h
    have e : cmpI a a = 0 := by unfold cmpI; rw [if_neg (by omega), if_neg (by omega)]
    rw [e]
    go_enter Try.func105, Try.ntmps105
    go_wp2_with (go_at_call 126; (refine (isNaN_any _ _).mono ?_; rintro e w' ⟨rfl, rfl⟩))
    go_ret
    exact ⟨rfl, rfl⟩
set_option maxRecDepth 100000 in
set_option maxHeartbeats 2000000 in
theorem cmpS_any (B C : Nat) (x1 y1 x2 y2 : Int) {w : World} (c0 : w.cell? ⟨B, 0, none⟩ = some (.int .i64 x1)) (c1 : w.cell? ⟨B, 1, none⟩ = some (.int .i64 y1)) (d0 : w.cell? ⟨C, 0, none⟩ = some (.int .i64 x2)) (d1 : w.cell? ⟨C, 1, none⟩ = some (.int .i64 y2)) :
    Calls Try.prog 85 #[.slice (some ⟨B, 0, none⟩) 2 2, .slice (some ⟨C, 0, none⟩) 2 2] w fun e w' => e = .returned (.int .i64 (cmpP (x1, y1) (x2, y2))) ∧ w = w' := by
  have HX := Lib.hid (fun W => cmpInt_any x1 x2 W)
  have HY := Lib.hid (fun W => cmpInt_any y1 y2 W)
  have HE : Hid (cmpP (x1, y1) (x2, y2) = if cmpI x1 x2 = 0 then cmpI y1 y2 else cmpI x1 x2) := Lib.hid rfl
  obtain ⟨p, hp⟩ : ∃ z, z = cmpI x1 x2 := ⟨_, rfl⟩
  obtain ⟨q, hq⟩ : ∃ z, z = cmpI y1 y2 := ⟨_, rfl⟩
  rw [← hp] at HX HE
  rw [← hq] at HY HE
  clear hp hq
  have C0 := Lib.hid c0
  have C1 := Lib.hid c1
  have D0 := Lib.hid d0
  have D1 := Lib.hid d1
  clear c0 c1 d0 d1
  go_enter Try.func85, Try.ntmps85
  go_wp2
  go_loopw [11] (fun i wr => wr = w ∧ ((i = .int .i64 0) ∨ (i = .int .i64 1 ∧ p = 0) ∨ (i = .int .i64 2 ∧ p = 0 ∧ q = 0))) (fun i _ => 2 - (intOf i).toNat)
  case atStart => exact ⟨by simp, .inl (by simp)⟩
  case round =>
    rcases hrel with ⟨rfl, rfl | ⟨rfl, hp⟩ | ⟨rfl, hp, hq⟩⟩
    · have c0 := C0.out
      have d0 := D0.out
      by_cases hp : p = 0
      · have u : (p == 0) = true := by simpa using hp
        go_wp2_with (go_at_call 105; ((with_reducible refine (HX.out _).mono ?_); rintro e w' ⟨rfl, rfl⟩))
        go_roundw
        case rel => exact ⟨by simp, .inr (.inl ⟨by go_num, hp⟩)⟩
        case measure => simp [intOf]
      · have u : (p == 0) = false := by simpa using hp
        go_wp2_with (go_at_call 105; ((with_reducible refine (HX.out _).mono ?_); rintro e w' ⟨rfl, rfl⟩))
        go_ret
        exact ⟨by rw [HE.out, if_neg hp]; rfl, rfl⟩
    · have c1 := C1.out
      have d1 := D1.out
      by_cases hq : q = 0
      · have u : (q == 0) = true := by simpa using hq
        go_wp2_with (go_at_call 105; ((with_reducible refine (HY.out _).mono ?_); rintro e w' ⟨rfl, rfl⟩))
        go_roundw
        case rel => exact ⟨by simp, .inr (.inr ⟨by go_num, hp, hq⟩)⟩
        case measure => simp [intOf]
      · have u : (q == 0) = false := by simpa using hq
        go_wp2_with (go_at_call 105; ((with_reducible refine (HY.out _).mono ?_); rintro e w' ⟨rfl, rfl⟩))
        go_ret
        exact ⟨by rw [HE.out, if_pos hp]; rfl, rfl⟩
    · go_wp2
      go_ret
      exact ⟨by rw [HE.out, if_pos hp, hq]; rfl, rfl⟩

set_option maxRecDepth 100000 in
set_option maxHeartbeats 2000000 in
theorem cmpPl_any (x1 y1 x2 y2 : Int) (w : World) :
    Calls Try.prog 72 #[.agg #[.int .i64 x1, .int .i64 y1], .agg #[.int .i64 x2, .int .i64 y2]] w fun e w' => e = .returned (.int .i64 (cmpP (x1, y1) (x2, y2))) ∧ Below w.heap.size w w' := by
  go_enter Try.func72, Try.ntmps72
  go_upto_region 1 with fail
  obtain ⟨W1, hW1⟩ : ∃ W, W = ((w.alloc (.cells #[.int .i64 x1, .int .i64 y1] 71)).alloc (.cells #[.int .i64 x2, .int .i64 y2] 71)) := ⟨_, rfl⟩
  have c0 : W1.cell? ⟨w.heap.size, 0, none⟩ = some (.int .i64 x1) := by rw [hW1]; go_simp
  have c1 : W1.cell? ⟨w.heap.size, 1, none⟩ = some (.int .i64 y1) := by rw [hW1]; go_simp
  have d0 : W1.cell? ⟨w.heap.size + 1, 0, none⟩ = some (.int .i64 x2) := by rw [hW1]; go_simp
  have d1 : W1.cell? ⟨w.heap.size + 1, 1, none⟩ = some (.int .i64 y2) := by rw [hW1]; go_simp
  have hB : Below w.heap.size w W1 := by rw [hW1]; exact ((Below.refl _ _).alloc (Nat.le_refl _) _).alloc (by simp) _
  rw [← hW1]
  clear hW1
  have rgc0 := fun d os => cell_regrown c0 d os
  have rgc1 := fun d os => cell_regrown c1 d os
  have rgd0 := fun d os => cell_regrown d0 d os
  have rgd1 := fun d os => cell_regrown d1 d os
  have HC := fun d os => (cmpS_any w.heap.size (w.heap.size + 1) x1 y1 x2 y2 (rgc0 d os) (rgc1 d os) (rgd0 d os) (rgd1 d os)).mono (R' := fun e w' => e = .returned (.int .i64 (cmpP (x1, y1) (x2, y2))) ∧ Below (grow (redrawn W1 d) os).heap.size (grow (redrawn W1 d) os) w') (fun e w' ⟨he, hw⟩ => ⟨he, by rw [← hw]; exact Below.refl _ _⟩)
  refine wp_region_quiet_below (by kernel_rfl) (by kernel_rfl) ?_
  repeat (quiet_step (first | (with_reducible exact Calls.regrown_of (HC _ _))))
  refine wpQuiet_nil ?_
  intro _ hw'
  obtain ⟨⟨dq, osq⟩, hw''⟩ := hw'
  subst hw''
  have hq := below_regrown W1 dq osq
  generalize grow (redrawn W1 dq) osq = W2 at hq ⊢
  have hB2 : Below w.heap.size w W2 := hB.trans (hq.mono hB.size)
  go_wp2
  go_ret
  exact ⟨rfl, hB2⟩

end Go.Proofs.Ytfimjfchdaioeaa
