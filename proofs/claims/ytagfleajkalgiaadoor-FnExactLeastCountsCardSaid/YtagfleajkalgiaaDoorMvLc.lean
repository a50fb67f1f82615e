/- Least counts, both sides. Conditions: the table of squares, and those written in each theorem. -/
import Derived.Test.YtagfleajkalgiaaDoorMvWi
import Derived.Deep.RegionHeld3
import Derived.Deep.DrawnRows
import Derived.Deep.DeepCutAuto
import Derived.IntWalk
namespace Go.Proofs.YtagfleajkalgiaaDoor
open Go.RowKit


attribute [local go_sem ↓] Go.wp_at_zero Go.wp_at_succ

/-- The first counts from k on, of so many, that suffice. -/
def lcGo (q s : Int) : Nat → Nat → Int × Bool
  | 0, _ => (0, false)
  | f + 1, k => if q ≤ wiR s k then ((k : Int), true) else lcGo q s f (k + 1)
theorem lcGo_hit {q s : Int} {k : Nat} (hk : k ≤ 64) (h : q ≤ wiR s k) : lcGo q s (65 - k) k = ((k : Int), true) := by
  obtain ⟨f, hf⟩ : ∃ f, 65 - k = f + 1 := ⟨64 - k, by omega⟩
  rw [hf]
  show (if _ then _ else _) = _
  rw [if_pos h]
theorem lcGo_miss {q s : Int} {k : Nat} (hk : k ≤ 64) (h : ¬ q ≤ wiR s k) : lcGo q s (65 - k) k = lcGo q s (65 - (k + 1)) (k + 1) := by
  obtain ⟨f, hf⟩ : ∃ f, 65 - k = f + 1 := ⟨64 - k, by omega⟩
  rw [hf, show 65 - (k + 1) = f by omega]
  show (if _ then _ else _) = _
  rw [if_neg h]
def lcOk (x1 y1 x2 y2 s : Int) : Bool := onField x1 y1 && onField x2 y2 && inB 1 s 24
def lcR (x1 y1 x2 y2 s : Int) : Int × Bool := if lcOk x1 y1 x2 y2 s then lcGo (sqr x1 y1 x2 y2) s 64 1 else (0, false)
theorem lcR_yes {x1 y1 x2 y2 s : Int} (h : lcOk x1 y1 x2 y2 s = true) : lcR x1 y1 x2 y2 s = lcGo (sqr x1 y1 x2 y2) s 64 1 := by unfold lcR; rw [if_pos h]
theorem lcR_no {x1 y1 x2 y2 s : Int} (h : lcOk x1 y1 x2 y2 s = false) : lcR x1 y1 x2 y2 s = (0, false) := by unfold lcR; rw [h]; rfl
theorem lcOk_iff {x1 y1 x2 y2 s : Int} : lcOk x1 y1 x2 y2 s = true ↔ (onField x1 y1 = true ∧ onField x2 y2 = true) ∧ 1 ≤ s ∧ s ≤ 24 := by simp [lcOk, inB]

set_option maxHeartbeats 1000000 in
theorem specLc_no (x1 y1 x2 y2 s : Int) (hv : lcOk x1 y1 x2 y2 s = false) (w : World) :
    Calls Tryd.prog 9 #[.agg #[.int .i64 x1, .int .i64 y1], .agg #[.int .i64 x2, .int .i64 y2], .int .i64 s] w fun e w' => e = .returned (.tuple #[.int .i64 0, .bool false]) ∧ Below w.heap.size w w' := by
  obtain ⟨q1, q2, q3, q4, q5, q6, q7⟩ := nadd
  cases h1 : onField x1 y1 <;> cases h2 : onField x2 y2 <;> cases h3 : inB 1 s 24
  all_goals first | (exfalso; unfold lcOk at hv; rw [h1, h2, h3] at hv; cases hv; done) | clear hv
  all_goals
    go_enter Tryd.func9, Tryd.ntmps9
    go_wp2_with (first | (go_at_call 21; (refine (stTwo_any _ _ _ _ _).mono ?_; rintro e w1 ⟨rfl, hb1⟩; have hs1 := hb1.size; (try simp at hs1); (first | have hk4 := call_facts hl3 hb1 (by simp) | skip); (first | have hk3 := call_facts hl2 hb1 (by simp) | skip); (first | have hk2 := call_facts hl1 hb1 (by simp) | skip); have hk1 := call_facts (fun b h => h) hb1 (Nat.le_refl _); (first | have hl4 := hk4.1 | skip); (first | have hl3 := hk3.1 | skip); (first | have hl2 := hk2.1 | skip); have hl1 := hk1.1)) | (go_at_call 15; (refine (mvStep_any _ _).mono ?_; rintro e w' ⟨rfl, rfl⟩)))
    go_ret2
    exact ⟨rfl, (by repeat (first | exact Below.refl _ _ | assumption | refine Below.drew ?_ | refine below_drewN ?_ _ | refine Below.alloc ?_ (by first | omega | (simp; done) | (simp; omega)) _ | refine Below.setCell ?_ (by first | omega | (simp; done) | (simp; omega)) _ | refine Below.trans ?_ (Below.mono (by assumption) (by first | omega | (simp; done) | (simp; omega)))))⟩

set_option maxHeartbeats 1000000 in
theorem lc_no (x1 y1 x2 y2 s : Int) (hv : lcOk x1 y1 x2 y2 s = false) (w : World) :
    Calls Tryd.prog 11 #[.agg #[.int .i64 x1, .int .i64 y1], .agg #[.int .i64 x2, .int .i64 y2], .int .i64 s] w fun e w' => e = .returned (.tuple #[.int .i64 0, .bool false]) ∧ Below w.heap.size w w' := by
  obtain ⟨q1, q2, q3, q4, q5, q6, q7⟩ := nadd
  cases h1 : onField x1 y1 <;> cases h2 : onField x2 y2 <;> cases h3 : inB 1 s 24
  all_goals first | (exfalso; unfold lcOk at hv; rw [h1, h2, h3] at hv; cases hv; done) | clear hv
  all_goals
    go_enter Tryd.func11, Tryd.ntmps11
    go_wp2_with (first | (go_at_call 22; (refine (isSpot_any _ _ _).mono ?_; rintro e w1 ⟨rfl, hb1⟩; have hs1 := hb1.size; (try simp at hs1); (first | have hk4 := call_facts hl3 hb1 (by simp) | skip); (first | have hk3 := call_facts hl2 hb1 (by simp) | skip); (first | have hk2 := call_facts hl1 hb1 (by simp) | skip); have hk1 := call_facts (fun b h => h) hb1 (Nat.le_refl _); (first | have hl4 := hk4.1 | skip); (first | have hl3 := hk3.1 | skip); (first | have hl2 := hk2.1 | skip); have hl1 := hk1.1)) | (go_at_call 18; (refine (isStep_any _ _).mono ?_; rintro e w' ⟨rfl, rfl⟩)))
    go_ret2
    exact ⟨rfl, (by repeat (first | exact Below.refl _ _ | assumption | refine Below.drew ?_ | refine below_drewN ?_ _ | refine Below.alloc ?_ (by first | omega | (simp; done) | (simp; omega)) _ | refine Below.setCell ?_ (by first | omega | (simp; done) | (simp; omega)) _ | refine Below.trans ?_ (Below.mono (by assumption) (by first | omega | (simp; done) | (simp; omega)))))⟩

set_option maxHeartbeats 2000000 in
theorem specLc_yes (x1 y1 x2 y2 s : Int) (hv : lcOk x1 y1 x2 y2 s = true) (w : World) :
    Calls Tryd.prog 9 #[.agg #[.int .i64 x1, .int .i64 y1], .agg #[.int .i64 x2, .int .i64 y2], .int .i64 s] w fun e w' => e = .returned (.tuple #[.int .i64 (lcGo (sqr x1 y1 x2 y2) s 64 1).1, .bool (lcGo (sqr x1 y1 x2 y2) s 64 1).2]) ∧ Below w.heap.size w w' := by
  obtain ⟨⟨h1, h2⟩, s0, s1⟩ := lcOk_iff.1 hv
  have h3 : inB 1 s 24 = true := inB_iff.2 ⟨s0, s1⟩
  obtain ⟨q1, q2, q3, q4, q5, q6, q7⟩ := nadd
  have HW := Lib.hid (fun (k : Nat) (hk : k ≤ 64) W => mvWithin_any x1 y1 x2 y2 (k : Int) s h1 h2 s0 s1 (by omega) (by omega) W)
  obtain ⟨sq, hsq⟩ : ∃ sq, sq = sqr x1 y1 x2 y2 := ⟨_, rfl⟩
  rw [← hsq] at HW ⊢
  clear hsq hv s0 s1
  obtain ⟨V, hV⟩ : ∃ V, V = (lcGo sq s 64 1).1 := ⟨_, rfl⟩
  obtain ⟨B, hB⟩ : ∃ B, B = (lcGo sq s 64 1).2 := ⟨_, rfl⟩
  rw [← hV, ← hB]
  have HV := Lib.hid hV
  have HB := Lib.hid hB
  clear hV hB
  go_enter Tryd.func9, Tryd.ntmps9
  go_wp2_with (first | (go_at_call 21; (refine (stTwo_any _ _ _ _ _).mono ?_; rintro e w1 ⟨rfl, hb1⟩; have hs1 := hb1.size; (try simp at hs1); (first | have hk4 := call_facts hl3 hb1 (by simp) | skip); (first | have hk3 := call_facts hl2 hb1 (by simp) | skip); (first | have hk2 := call_facts hl1 hb1 (by simp) | skip); have hk1 := call_facts (fun b h => h) hb1 (Nat.le_refl _); (first | have hl4 := hk4.1 | skip); (first | have hl3 := hk3.1 | skip); (first | have hl2 := hk2.1 | skip); have hl1 := hk1.1)) | (go_at_call 15; (refine (mvStep_any _ _).mono ?_; rintro e w' ⟨rfl, rfl⟩)))
  go_loopw [8] (fun i wr => ∃ k : Nat, 1 ≤ k ∧ k ≤ 65 ∧ i = .int .i64 k ∧ lcGo sq s (65 - k) k = lcGo sq s 64 1 ∧ wr.cell? ⟨w.heap.size, 0, none⟩ = some (.int .i64 x1) ∧ wr.cell? ⟨w.heap.size, 1, none⟩ = some (.int .i64 y1) ∧ wr.cell? ⟨w.heap.size + 1, 0, none⟩ = some (.int .i64 x2) ∧ wr.cell? ⟨w.heap.size + 1, 1, none⟩ = some (.int .i64 y2) ∧ w.heap.size + 1 < wr.heap.size ∧ Below w.heap.size w wr) (fun i _ => 65 - (intOf i).toNat)
  case atStart => exact ⟨1, by omega, by omega, rfl, rfl, by go_simp, by go_simp, by go_simp, by go_simp, (by first | omega | (simp; done) | (simp; omega)), (by repeat (first | exact Below.refl _ _ | assumption | refine Below.drew ?_ | refine below_drewN ?_ _ | refine Below.alloc ?_ (by first | omega | (simp; done) | (simp; omega)) _ | refine Below.setCell ?_ (by first | omega | (simp; done) | (simp; omega)) _ | refine Below.trans ?_ (Below.mono (by assumption) (by first | omega | (simp; done) | (simp; omega)))))⟩
  case round =>
    obtain ⟨k, k0, k1, rfl, hgo, c0, c1, c2, c3, hz, hbr⟩ := hrel
    have hsr := hbr.size
    have Hgo := Lib.hid hgo
    clear hgo
    (repeat clear hl1); (repeat clear hl2); (repeat clear hl3); (repeat clear hl4); (repeat clear hk1); (repeat clear hk2); (repeat clear hk3); (repeat clear hk4); (repeat clear hcn); (repeat clear hfn); (repeat clear hln); (repeat clear hz0); (repeat clear hz1); (repeat clear hz2); (repeat clear hs1); (repeat clear hb1)
    by_cases hlt : k ≤ 64
    · have HK := Lib.hid (HW.out k hlt)
      have i0 : (0 : Int) ≤ (k : Int) := by omega
      have i1 : (k : Int) ≤ 64 := by omega
      have v1 : IntKind.i64.wrap ((k : Int) + 1) = (k : Int) + 1 := IntWalk.i64_in _ (by omega)
      by_cases hd : sq ≤ wiR s k
      · have e0 := lcGo_hit hlt hd
        have E0 := Lib.hid e0
        rw [show decide (sq ≤ wiR s (k : Int)) = true from decide_eq_true hd] at HK
        clear e0 hd
        go_wp2_with (first | (go_at_call 16; ((with_reducible refine (HK.out _).mono ?_); rintro e w1 ⟨rfl, hb1⟩; have hs1 := hb1.size; (try simp at hs1); (first | have hk4 := call_facts hl3 hb1 (by simp) | skip); (first | have hk3 := call_facts hl2 hb1 (by simp) | skip); (first | have hk2 := call_facts hl1 hb1 (by simp) | skip); have hk1 := call_facts (fun b h => h) hb1 (Nat.le_refl _); (first | have hl4 := hk4.1 | skip); (first | have hl3 := hk3.1 | skip); (first | have hl2 := hk2.1 | skip); have hl1 := hk1.1)))
        go_ret2
        exact ⟨by rw [HV.out, HB.out, ← Hgo.out, E0.out]; rfl, (by repeat (first | exact Below.refl _ _ | assumption | refine Below.drew ?_ | refine below_drewN ?_ _ | refine Below.alloc ?_ (by first | omega | (simp; done) | (simp; omega)) _ | refine Below.setCell ?_ (by first | omega | (simp; done) | (simp; omega)) _ | refine Below.trans ?_ (Below.mono (by assumption) (by first | omega | (simp; done) | (simp; omega)))))⟩
      · have e0 := lcGo_miss hlt hd
        rw [Hgo.out] at e0
        have E0 := Lib.hid e0
        rw [show decide (sq ≤ wiR s (k : Int)) = false from decide_eq_false hd] at HK
        clear e0 hd
        go_wp2_with (first | (go_at_call 16; ((with_reducible refine (HK.out _).mono ?_); rintro e w1 ⟨rfl, hb1⟩; have hs1 := hb1.size; (try simp at hs1); (first | have hk4 := call_facts hl3 hb1 (by simp) | skip); (first | have hk3 := call_facts hl2 hb1 (by simp) | skip); (first | have hk2 := call_facts hl1 hb1 (by simp) | skip); have hk1 := call_facts (fun b h => h) hb1 (Nat.le_refl _); (first | have hl4 := hk4.1 | skip); (first | have hl3 := hk3.1 | skip); (first | have hl2 := hk2.1 | skip); have hl1 := hk1.1)))
        go_roundw
        case rel => exact ⟨k + 1, by omega, by omega, by go_num, E0.out.symm, (hb1.cell (p := ⟨w.heap.size, 0, none⟩) (by first | omega | (simp; done) | (simp; omega))).trans c0, (hb1.cell (p := ⟨w.heap.size, 1, none⟩) (by first | omega | (simp; done) | (simp; omega))).trans c1, (hb1.cell (p := ⟨w.heap.size + 1, 0, none⟩) (by first | omega | (simp; done) | (simp; omega))).trans c2, (hb1.cell (p := ⟨w.heap.size + 1, 1, none⟩) (by first | omega | (simp; done) | (simp; omega))).trans c3, (by first | omega | (simp; done) | (simp; omega)), (by repeat (first | exact Below.refl _ _ | assumption | refine Below.drew ?_ | refine below_drewN ?_ _ | refine Below.alloc ?_ (by first | omega | (simp; done) | (simp; omega)) _ | refine Below.setCell ?_ (by first | omega | (simp; done) | (simp; omega)) _ | refine Below.trans ?_ (Below.mono (by assumption) (by first | omega | (simp; done) | (simp; omega)))))⟩
        case measure => simp [intOf]; omega
    · obtain rfl : k = 65 := by omega
      have E0 := Lib.hid (show lcGo sq s 64 1 = (0, false) from Hgo.out.symm)
      go_wp2
      go_ret2
      exact ⟨by rw [HV.out, HB.out, E0.out]; rfl, (by repeat (first | exact Below.refl _ _ | assumption | refine Below.drew ?_ | refine below_drewN ?_ _ | refine Below.alloc ?_ (by first | omega | (simp; done) | (simp; omega)) _ | refine Below.setCell ?_ (by first | omega | (simp; done) | (simp; omega)) _ | refine Below.trans ?_ (Below.mono (by assumption) (by first | omega | (simp; done) | (simp; omega)))))⟩

set_option maxHeartbeats 2000000 in
theorem firstCounts_any (sq : Int) (S : Nat) (s0 : 1 ≤ S) (s1 : S ≤ 24) (w : World) (ht : SqAt w) :
    Calls Tryd.prog 23 #[.func (Fn.func 20) #[.agg #[.int .i64 sq, .int .i64 (S : Int)]] #[]] w fun e w' => e = .returned (.tuple #[.int .i64 (lcGo sq (S : Int) 64 1).1, .bool (lcGo sq (S : Int) 64 1).2]) ∧ Below w.heap.size w w' := by
  obtain ⟨q1, q2, q3, q4, q5, q6, q7⟩ := nadd
  have HW := Lib.hid (fun (k : Nat) (hk : k ≤ 64) (W : World) (h : SqAt W) => done_any sq S (k : Int) s0 s1 (by omega) (by omega) W h)
  have HT := Lib.hid ht
  clear ht s0 s1
  obtain ⟨V, hV⟩ : ∃ V, V = (lcGo sq (S : Int) 64 1).1 := ⟨_, rfl⟩
  obtain ⟨B, hB⟩ : ∃ B, B = (lcGo sq (S : Int) 64 1).2 := ⟨_, rfl⟩
  rw [← hV, ← hB]
  have HV := Lib.hid hV
  have HB := Lib.hid hB
  clear hV hB
  go_enter Tryd.func23, Tryd.ntmps23
  go_wp2
  go_loopw [4] (fun i wr => ∃ k : Nat, 1 ≤ k ∧ k ≤ 65 ∧ i = .int .i64 k ∧ lcGo sq (S : Int) (65 - k) k = lcGo sq (S : Int) 64 1 ∧ Below w.heap.size w wr) (fun i _ => 65 - (intOf i).toNat)
  case atStart => exact ⟨1, by omega, by omega, rfl, rfl, (by repeat (first | exact Below.refl _ _ | assumption | refine Below.drew ?_ | refine below_drewN ?_ _ | refine Below.alloc ?_ (by first | omega | (simp; done) | (simp; omega)) _ | refine Below.setCell ?_ (by first | omega | (simp; done) | (simp; omega)) _ | refine Below.trans ?_ (Below.mono (by assumption) (by first | omega | (simp; done) | (simp; omega)))))⟩
  case round =>
    obtain ⟨k, k0, k1, rfl, hgo, hbr⟩ := hrel
    have hsr := hbr.size
    have Hgo := Lib.hid hgo
    clear hgo
    by_cases hlt : k ≤ 64
    · have HK := Lib.hid (HW.out k hlt wr (HT.out.below hbr))
      have i0 : (0 : Int) ≤ (k : Int) := by omega
      have i1 : (k : Int) ≤ 64 := by omega
      have v1 : IntKind.i64.wrap ((k : Int) + 1) = (k : Int) + 1 := IntWalk.i64_in _ (by omega)
      by_cases hd : sq ≤ wiR (S : Int) k
      · have e0 := lcGo_hit hlt hd
        have E0 := Lib.hid e0
        rw [show decide (sq ≤ wiR (S : Int) (k : Int)) = true from decide_eq_true hd] at HK
        clear e0 hd
        go_wp2_with (first | (go_at_call 20; ((with_reducible refine HK.out.mono ?_); rintro e w1 ⟨rfl, hb1⟩; have hs1 := hb1.size; (try simp at hs1); (first | have hk4 := call_facts hl3 hb1 (by simp) | skip); (first | have hk3 := call_facts hl2 hb1 (by simp) | skip); (first | have hk2 := call_facts hl1 hb1 (by simp) | skip); have hk1 := call_facts (fun b h => h) hb1 (Nat.le_refl _); (first | have hl4 := hk4.1 | skip); (first | have hl3 := hk3.1 | skip); (first | have hl2 := hk2.1 | skip); have hl1 := hk1.1)))
        go_ret2
        exact ⟨by rw [HV.out, HB.out, ← Hgo.out, E0.out]; rfl, (by repeat (first | exact Below.refl _ _ | assumption | refine Below.drew ?_ | refine below_drewN ?_ _ | refine Below.alloc ?_ (by first | omega | (simp; done) | (simp; omega)) _ | refine Below.setCell ?_ (by first | omega | (simp; done) | (simp; omega)) _ | refine Below.trans ?_ (Below.mono (by assumption) (by first | omega | (simp; done) | (simp; omega)))))⟩
      · have e0 := lcGo_miss hlt hd
        rw [Hgo.out] at e0
        have E0 := Lib.hid e0
        rw [show decide (sq ≤ wiR (S : Int) (k : Int)) = false from decide_eq_false hd] at HK
        clear e0 hd
        go_wp2_with (first | (go_at_call 20; ((with_reducible refine HK.out.mono ?_); rintro e w1 ⟨rfl, hb1⟩; have hs1 := hb1.size; (try simp at hs1); (first | have hk4 := call_facts hl3 hb1 (by simp) | skip); (first | have hk3 := call_facts hl2 hb1 (by simp) | skip); (first | have hk2 := call_facts hl1 hb1 (by simp) | skip); have hk1 := call_facts (fun b h => h) hb1 (Nat.le_refl _); (first | have hl4 := hk4.1 | skip); (first | have hl3 := hk3.1 | skip); (first | have hl2 := hk2.1 | skip); have hl1 := hk1.1)))
        go_roundw
        case rel => exact ⟨k + 1, by omega, by omega, by go_num, E0.out.symm, (by repeat (first | exact Below.refl _ _ | assumption | refine Below.drew ?_ | refine below_drewN ?_ _ | refine Below.alloc ?_ (by first | omega | (simp; done) | (simp; omega)) _ | refine Below.setCell ?_ (by first | omega | (simp; done) | (simp; omega)) _ | refine Below.trans ?_ (Below.mono (by assumption) (by first | omega | (simp; done) | (simp; omega)))))⟩
        case measure => simp [intOf]; omega
    · obtain rfl : k = 65 := by omega
      have E0 := Lib.hid (show lcGo sq (S : Int) 64 1 = (0, false) from Hgo.out.symm)
      go_wp2
      go_ret2
      exact ⟨by rw [HV.out, HB.out, E0.out]; rfl, (by repeat (first | exact Below.refl _ _ | assumption | refine Below.drew ?_ | refine below_drewN ?_ _ | refine Below.alloc ?_ (by first | omega | (simp; done) | (simp; omega)) _ | refine Below.setCell ?_ (by first | omega | (simp; done) | (simp; omega)) _ | refine Below.trans ?_ (Below.mono (by assumption) (by first | omega | (simp; done) | (simp; omega)))))⟩

set_option maxHeartbeats 2000000 in
theorem lc_yes (x1 y1 x2 y2 s : Int) (hv : lcOk x1 y1 x2 y2 s = true) (w : World) (ht : SqAt w) :
    Calls Tryd.prog 11 #[.agg #[.int .i64 x1, .int .i64 y1], .agg #[.int .i64 x2, .int .i64 y2], .int .i64 s] w fun e w' => e = .returned (.tuple #[.int .i64 (lcGo (sqr x1 y1 x2 y2) s 64 1).1, .bool (lcGo (sqr x1 y1 x2 y2) s 64 1).2]) ∧ Below w.heap.size w w' := by
  obtain ⟨⟨h1, h2⟩, s0, s1⟩ := lcOk_iff.1 hv
  have h3 : inB 1 s 24 = true := inB_iff.2 ⟨s0, s1⟩
  obtain ⟨q1, q2, q3, q4, q5, q6, q7⟩ := nadd
  obtain ⟨S, rfl⟩ : ∃ S : Nat, s = (S : Int) := ⟨s.toNat, by omega⟩
  have HSO := Lib.hid (fun W => strideOf_any x1 y1 x2 y2 (S : Int) h1 h2 W)
  obtain ⟨sq, hsq⟩ : ∃ sq, sq = sqr x1 y1 x2 y2 := ⟨_, rfl⟩
  have HF := Lib.hid (fun (W : World) (hb : Below w.heap.size w W) => firstCounts_any sq S (by omega) (by omega) W (ht.below hb))
  rw [← hsq] at HSO ⊢
  obtain ⟨V, hV⟩ : ∃ V, V = (lcGo sq (S : Int) 64 1).1 := ⟨_, rfl⟩
  obtain ⟨B, hB⟩ : ∃ B, B = (lcGo sq (S : Int) 64 1).2 := ⟨_, rfl⟩
  rw [← hV, ← hB] at HF ⊢
  clear hsq hv s0 s1 ht hV hB
  go_enter Tryd.func11, Tryd.ntmps11
  go_wp2_with (first | (go_at_call 22; (refine (isSpot_any _ _ _).mono ?_; rintro e w1 ⟨rfl, hb1⟩; have hs1 := hb1.size; (try simp at hs1); (first | have hk4 := call_facts hl3 hb1 (by simp) | skip); (first | have hk3 := call_facts hl2 hb1 (by simp) | skip); (first | have hk2 := call_facts hl1 hb1 (by simp) | skip); have hk1 := call_facts (fun b h => h) hb1 (Nat.le_refl _); (first | have hl4 := hk4.1 | skip); (first | have hl3 := hk3.1 | skip); (first | have hl2 := hk2.1 | skip); have hl1 := hk1.1)) | (go_at_call 18; (refine (isStep_any _ _).mono ?_; rintro e w' ⟨rfl, rfl⟩)) | (go_at_call 19; ((with_reducible refine (HSO.out _).mono ?_); rintro e w1 ⟨rfl, hb1⟩; have hs1 := hb1.size; (try simp at hs1); (first | have hk4 := call_facts hl3 hb1 (by simp) | skip); (first | have hk3 := call_facts hl2 hb1 (by simp) | skip); (first | have hk2 := call_facts hl1 hb1 (by simp) | skip); have hk1 := call_facts (fun b h => h) hb1 (Nat.le_refl _); (first | have hl4 := hk4.1 | skip); (first | have hl3 := hk3.1 | skip); (first | have hl2 := hk2.1 | skip); have hl1 := hk1.1)) | (go_at_call 23; ((with_reducible refine (HF.out _ (by repeat (first | exact Below.refl _ _ | assumption | refine Below.drew ?_ | refine below_drewN ?_ _ | refine Below.alloc ?_ (by first | omega | (simp; done) | (simp; omega)) _ | refine Below.setCell ?_ (by first | omega | (simp; done) | (simp; omega)) _ | refine Below.trans ?_ (Below.mono (by assumption) (by first | omega | (simp; done) | (simp; omega)))))).mono ?_); rintro e w1 ⟨rfl, hb1⟩; have hs1 := hb1.size; (try simp at hs1); (first | have hk4 := call_facts hl3 hb1 (by simp) | skip); (first | have hk3 := call_facts hl2 hb1 (by simp) | skip); (first | have hk2 := call_facts hl1 hb1 (by simp) | skip); have hk1 := call_facts (fun b h => h) hb1 (Nat.le_refl _); (first | have hl4 := hk4.1 | skip); (first | have hl3 := hk3.1 | skip); (first | have hl2 := hk2.1 | skip); have hl1 := hk1.1)))
  go_ret2
  exact ⟨rfl, (by repeat (first | exact Below.refl _ _ | assumption | refine Below.drew ?_ | refine below_drewN ?_ _ | refine Below.alloc ?_ (by first | omega | (simp; done) | (simp; omega)) _ | refine Below.setCell ?_ (by first | omega | (simp; done) | (simp; omega)) _ | refine Below.trans ?_ (Below.mono (by assumption) (by first | omega | (simp; done) | (simp; omega)))))⟩

theorem specLc_any (x1 y1 x2 y2 s : Int) (w : World) :
    Calls Tryd.prog 9 #[.agg #[.int .i64 x1, .int .i64 y1], .agg #[.int .i64 x2, .int .i64 y2], .int .i64 s] w fun e w' => e = .returned (.tuple #[.int .i64 (lcR x1 y1 x2 y2 s).1, .bool (lcR x1 y1 x2 y2 s).2]) ∧ Below w.heap.size w w' := by
  cases h1 : lcOk x1 y1 x2 y2 s
  · rw [lcR_no h1]; exact specLc_no x1 y1 x2 y2 s h1 w
  · rw [lcR_yes h1]; exact specLc_yes x1 y1 x2 y2 s h1 w
theorem lc_any (x1 y1 x2 y2 s : Int) (w : World) (ht : SqAt w) :
    Calls Tryd.prog 11 #[.agg #[.int .i64 x1, .int .i64 y1], .agg #[.int .i64 x2, .int .i64 y2], .int .i64 s] w fun e w' => e = .returned (.tuple #[.int .i64 (lcR x1 y1 x2 y2 s).1, .bool (lcR x1 y1 x2 y2 s).2]) ∧ Below w.heap.size w w' := by
  cases h1 : lcOk x1 y1 x2 y2 s
  · rw [lcR_no h1]; exact lc_no x1 y1 x2 y2 s h1 w
  · rw [lcR_yes h1]; exact lc_yes x1 y1 x2 y2 s h1 w ht

end Go.Proofs.YtagfleajkalgiaaDoor
