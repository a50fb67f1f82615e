/- Placed performers, both sides. No conditions but those written in each theorem. -/
import Derived.Test.YtfimjfchdaioeaaChSwap
import Derived.Deep.RegionHeld3
import Derived.Deep.DrawnRows
import Derived.IntWalk
import Derived.StillTailTactics
import Derived.Deep.DeepCutAuto
namespace Go.Proofs.Ytfimjfchdaioeaa
open Go.RowKit


attribute [local go_sem ↓] Go.wp_at_zero Go.wp_at_succ

set_option maxHeartbeats 1000000 in
theorem placeS_no (a : Option Addr) (cap : Nat) (l : List (Int × Int)) (hl : l.length ≤ 1048576) (hc : l.length ≤ cap) {w : World} (ha : PairsAt w a l) (i x y : Int) (h1 : plO l i = false) :
    Calls Try.prog 31 #[.slice a l.length cap, .int .i64 i, .agg #[.int .i64 x, .int .i64 y]] w fun e w' => e = .returned (.tuple #[.slice none 0 0, .bool false]) ∧ Below w.heap.size w w' := by
  have HI := Lib.hid (fun (W : World) (hb : Below w.heap.size w W) => chHas_any a cap l hl hc (ha.below hb) i)
  rw [h1] at HI
  clear h1
  go_enter Try.func31, Try.ntmps31
  go_wp2_with (go_at_call 61; ((with_reducible refine (HI.out _ (by repeat (first | exact Below.refl _ _ | assumption | refine Below.drew ?_ | refine below_drewN ?_ _ | refine Below.alloc ?_ (by first | omega | (simp; done) | (simp; omega)) _ | refine Below.setCell ?_ (by first | omega | (simp; done) | (simp; omega)) _ | refine Below.trans ?_ (Below.mono (by assumption) (by first | omega | (simp; done) | (simp; omega)))))).mono ?_); rintro e w1 ⟨rfl, hb1⟩; have hs1 := hb1.size; (try simp at hs1)))
  go_ret2
  exact ⟨rfl, (by repeat (first | exact Below.refl _ _ | assumption | refine Below.drew ?_ | refine below_drewN ?_ _ | refine Below.alloc ?_ (by first | omega | (simp; done) | (simp; omega)) _ | refine Below.setCell ?_ (by first | omega | (simp; done) | (simp; omega)) _ | refine Below.trans ?_ (Below.mono (by assumption) (by first | omega | (simp; done) | (simp; omega)))))⟩

set_option maxHeartbeats 1000000 in
theorem placeI_no1 (a : Option Addr) (cap : Nat) (l : List (Int × Int)) (hl : l.length ≤ 1048576) {w : World} (ha : PairsAt w a l) (i x y : Int) (hv : chOk l = false) :
    Calls Try.prog 33 #[.slice a l.length cap, .int .i64 i, .agg #[.int .i64 x, .int .i64 y]] w fun e w' => e = .returned (.tuple #[.slice none 0 0, .bool false]) ∧ Below w.heap.size w w' := by
  have HG := Lib.hid (fun (W : World) (hb : Below w.heap.size w W) => isChart_any a cap l hl (ha.below hb))
  have HI := Lib.hid (fun W => isPerf_any a cap l hl i W)
  rw [hv] at HG
  clear hv
  go_enter Try.func33, Try.ntmps33
  go_wp2_with (first | (go_at_call 17; ((with_reducible refine (HG.out _ (by repeat (first | exact Below.refl _ _ | assumption | refine Below.drew ?_ | refine below_drewN ?_ _ | refine Below.alloc ?_ (by first | omega | (simp; done) | (simp; omega)) _ | refine Below.setCell ?_ (by first | omega | (simp; done) | (simp; omega)) _ | refine Below.trans ?_ (Below.mono (by assumption) (by first | omega | (simp; done) | (simp; omega)))))).mono ?_); rintro e w1 ⟨rfl, hb1⟩; have hs1 := hb1.size; (try simp at hs1))) | (go_at_call 62; ((with_reducible refine (HI.out _).mono ?_); rintro e w' ⟨rfl, rfl⟩)))
  go_ret2
  exact ⟨rfl, (by repeat (first | exact Below.refl _ _ | assumption | refine Below.drew ?_ | refine below_drewN ?_ _ | refine Below.alloc ?_ (by first | omega | (simp; done) | (simp; omega)) _ | refine Below.setCell ?_ (by first | omega | (simp; done) | (simp; omega)) _ | refine Below.trans ?_ (Below.mono (by assumption) (by first | omega | (simp; done) | (simp; omega)))))⟩

set_option maxHeartbeats 1000000 in
theorem placeI_no2 (a : Option Addr) (cap : Nat) (l : List (Int × Int)) (hl : l.length ≤ 1048576) {w : World} (ha : PairsAt w a l) (i x y : Int) (hv : chOk l = true) (h1 : hasP l i = false) :
    Calls Try.prog 33 #[.slice a l.length cap, .int .i64 i, .agg #[.int .i64 x, .int .i64 y]] w fun e w' => e = .returned (.tuple #[.slice none 0 0, .bool false]) ∧ Below w.heap.size w w' := by
  have HG := Lib.hid (fun (W : World) (hb : Below w.heap.size w W) => isChart_any a cap l hl (ha.below hb))
  have HI := Lib.hid (fun W => isPerf_any a cap l hl i W)
  rw [hv] at HG
  rw [h1] at HI
  clear hv h1
  go_enter Try.func33, Try.ntmps33
  go_wp2_with (first | (go_at_call 17; ((with_reducible refine (HG.out _ (by repeat (first | exact Below.refl _ _ | assumption | refine Below.drew ?_ | refine below_drewN ?_ _ | refine Below.alloc ?_ (by first | omega | (simp; done) | (simp; omega)) _ | refine Below.setCell ?_ (by first | omega | (simp; done) | (simp; omega)) _ | refine Below.trans ?_ (Below.mono (by assumption) (by first | omega | (simp; done) | (simp; omega)))))).mono ?_); rintro e w1 ⟨rfl, hb1⟩; have hs1 := hb1.size; (try simp at hs1))) | (go_at_call 62; ((with_reducible refine (HI.out _).mono ?_); rintro e w' ⟨rfl, rfl⟩)))
  go_ret2
  exact ⟨rfl, (by repeat (first | exact Below.refl _ _ | assumption | refine Below.drew ?_ | refine below_drewN ?_ _ | refine Below.alloc ?_ (by first | omega | (simp; done) | (simp; omega)) _ | refine Below.setCell ?_ (by first | omega | (simp; done) | (simp; omega)) _ | refine Below.trans ?_ (Below.mono (by assumption) (by first | omega | (simp; done) | (simp; omega)))))⟩

theorem own_mono2 {w : World} {b b' : Nat} {v : Value} {n : Nat} {xs : List Value} {e : TypeId} {s : Nat} (h : w.ownsRow b e s v n xs) (hb : b' ≤ b) : w.ownsRow b' e s v n xs := own_mono h hb

set_option maxRecDepth 100000 in
set_option maxHeartbeats 4000000 in
theorem placeS_yes (a : Option Addr) (cap : Nat) (l : List (Int × Int)) (hl : l.length ≤ 1048576) (hc : l.length ≤ cap) {w : World} (ha : PairsAt w a l) (p : Nat) (x y : Int) (hv : chOk l = true) (hp : p < l.length) :
    Calls Try.prog 31 #[.slice a l.length cap, .int .i64 (p : Int), .agg #[.int .i64 x, .int .i64 y]] w fun e w' => ∃ v, e = .returned (.tuple #[v, .bool (chOk (l.set p (x, y)))]) ∧ OwnPairs 41 w' w.heap.size v (chIf (l.set p (x, y))) ∧ Below w.heap.size w w' := by
  have HI := Lib.hid (fun (W : World) (hb : Below w.heap.size w W) => chHas_any a cap l hl hc (ha.below hb) (p : Int))
  have HO := Lib.hid (fun (W : World) (hb : Below w.heap.size w W) => chOwn_any a cap l (by omega) hl (ha.below hb))
  have E1 : plO l (p : Int) = true := (by show (chOk l && inB 0 (p : Int) ((l.length : Int) - 1)) = true; rw [hv]; simp [inB]; omega)
  rw [E1] at HI
  clear E1
  have HCI := Lib.hid (fun W b v ho => chIfS (w := W) (base := b) (v := v) (l := l.set p (x, y)) (by rw [List.length_set]; exact hl) ho)
  have HB0 := Lib.hid (show Below w.heap.size w (w.alloc (.cells #[.int .i64 x, .int .i64 y] 41)) from (by repeat (first | exact Below.refl _ _ | assumption | refine Below.drew ?_ | refine below_drewN ?_ _ | refine Below.alloc ?_ (by first | omega | (simp; done) | (simp; omega)) _ | refine Below.setCell ?_ (by first | omega | (simp; done) | (simp; omega)) _ | refine Below.trans ?_ (Below.mono (by assumption) (by first | omega | (simp; done) | (simp; omega))))))
  have i0 : (0 : Int) ≤ (p : Int) := by omega
  have i1 : (p : Int) < (l.length : Int) := by omega
  clear hv ha
  go_enter Try.func31, Try.ntmps31
  go_upto_region 4 with (first | (go_at_call 61; ((with_reducible refine (HI.out _ (by repeat (first | exact Below.refl _ _ | assumption | refine Below.drew ?_ | refine below_drewN ?_ _ | refine Below.alloc ?_ (by first | omega | (simp; done) | (simp; omega)) _ | refine Below.setCell ?_ (by first | omega | (simp; done) | (simp; omega)) _ | refine Below.trans ?_ (Below.mono (by assumption) (by first | omega | (simp; done) | (simp; omega)))))).mono ?_); rintro e w1 ⟨rfl, hb1⟩; have hs1 := hb1.size; (try simp at hs1))) | (go_at_call 54; ((with_reducible refine (HO.out _ (by repeat (first | exact Below.refl _ _ | assumption | refine Below.drew ?_ | refine below_drewN ?_ _ | refine Below.alloc ?_ (by first | omega | (simp; done) | (simp; omega)) _ | refine Below.setCell ?_ (by first | omega | (simp; done) | (simp; omega)) _ | refine Below.trans ?_ (Below.mono (by assumption) (by first | omega | (simp; done) | (simp; omega)))))).mono ?_); rintro e w3 ⟨v3, rfl, ho3, hb3⟩; have hs3 := hb3.size; (try simp at hs3))))
  have hB3 : Below w.heap.size w w3 := (by repeat (first | exact Below.refl _ _ | assumption | refine Below.drew ?_ | refine below_drewN ?_ _ | refine Below.alloc ?_ (by first | omega | (simp; done) | (simp; omega)) _ | refine Below.setCell ?_ (by first | omega | (simp; done) | (simp; omega)) _ | refine Below.trans ?_ (Below.mono (by assumption) (by first | omega | (simp; done) | (simp; omega)))))
  have hs9 : w.heap.size < w3.heap.size := (by first | omega | (simp; done) | (simp; omega))
  have e0 : w3.cell? ⟨w.heap.size, 0, none⟩ = some (.int .i64 x) := (hb3.cell (p := ⟨w.heap.size, 0, none⟩) (by first | omega | (simp; done) | (simp; omega))).trans ((hb1.cell (p := ⟨w.heap.size, 0, none⟩) (by first | omega | (simp; done) | (simp; omega))).trans (by go_simp))
  have e1 : w3.cell? ⟨w.heap.size, 1, none⟩ = some (.int .i64 y) := (hb3.cell (p := ⟨w.heap.size, 1, none⟩) (by first | omega | (simp; done) | (simp; omega))).trans ((hb1.cell (p := ⟨w.heap.size, 1, none⟩) (by first | omega | (simp; done) | (simp; omega))).trans (by go_simp))
  have hgb1 : w.heap.size + 1 ≤ w1.heap.size := (by first | omega | (simp; done) | (simp; omega))
  have ho := own_mono (b' := w.heap.size + 1) ho3 hgb1
  clear ho3 hb3 hb1
  rcases own_formP ho with ⟨rfl, e2⟩ | ⟨g, cap', rfl, hgb, hgl⟩
  · rw [e2] at hp; exact absurd hp (by simp)
  obtain ⟨d0, d1, f0, f1⟩ := own_at ho hp
  have n1 : ¬ w.heap.size = g := by omega
  have n2 : ¬ g = w.heap.size := by omega
  have HST := Lib.hid (own_setP ho p x y)
  clear ho
  go_upto_region 5 with fail
  obtain ⟨W4, hW4⟩ : ∃ W, W = (w3.setCell ⟨g, p * 2, none⟩ (.int .i64 x)).setCell ⟨g, p * 2 + 1, none⟩ (.int .i64 y) := ⟨_, rfl⟩
  rw [← hW4] at HST ⊢
  have hB4 : Below w.heap.size w W4 := gb_below hB3 HST.out.2 (by omega)
  have hof : OwnPairs 41 W4 w.heap.size (.slice (some ⟨g, 0, none⟩) l.length cap') (l.set p (x, y)) := by
    unfold OwnPairs
    rw [List.length_set]
    exact own_mono2 HST.out.1 (by omega)
  have HOF := Lib.hid hof
  have hs4 := hB4.size
  clear hW4 hof e0 e1 d0 d1 f0 f1 hB3
  go_wp2_with (go_at_call 55; (refine (HCI.out _ _ _ HOF.out).mono ?_; rintro e w5 ⟨v5, rfl, ho5, hb5⟩; have hs5 := hb5.size))
  go_ret2
  exact ⟨_, rfl, own_mono ho5 (by first | omega | (simp; done) | (simp; omega)), (by repeat (first | exact Below.refl _ _ | assumption | refine Below.drew ?_ | refine below_drewN ?_ _ | refine Below.alloc ?_ (by first | omega | (simp; done) | (simp; omega)) _ | refine Below.setCell ?_ (by first | omega | (simp; done) | (simp; omega)) _ | refine Below.trans ?_ (Below.mono (by assumption) (by first | omega | (simp; done) | (simp; omega)))))⟩

set_option maxRecDepth 100000 in
set_option maxHeartbeats 4000000 in
theorem placeI_yes (a : Option Addr) (cap : Nat) (l : List (Int × Int)) (hl : l.length ≤ 1048576) {w : World} (ha : PairsAt w a l) (p : Nat) (x y : Int) (hv : chOk l = true) (hp : p < l.length) :
    Calls Try.prog 33 #[.slice a l.length cap, .int .i64 (p : Int), .agg #[.int .i64 x, .int .i64 y]] w fun e w' => ∃ v, e = .returned (.tuple #[v, .bool (chOk (l.set p (x, y)))]) ∧ OwnPairs 41 w' w.heap.size v (chIf (l.set p (x, y))) ∧ Below w.heap.size w w' := by
  have HG := Lib.hid (fun (W : World) (hb : Below w.heap.size w W) => isChart_any a cap l hl (ha.below hb))
  have HI := Lib.hid (fun W => isPerf_any a cap l hl (p : Int) W)
  have HO := Lib.hid (fun (W : World) (hb : Below w.heap.size w W) => cloneS_any a cap l (by omega) hl (ha.below hb))
  have E1 : hasP l (p : Int) = true := (by show inB 0 (p : Int) ((l.length : Int) - 1) = true; simp [inB]; omega)
  rw [hv] at HG
  rw [E1] at HI
  clear E1
  have HCI := Lib.hid (fun W b v ho => formOf (w := W) (base := b) (v := v) (l := l.set p (x, y)) (by rw [List.length_set]; exact hl) ho)
  have HB0 := Lib.hid (show Below w.heap.size w (w.alloc (.cells #[.int .i64 x, .int .i64 y] 41)) from (by repeat (first | exact Below.refl _ _ | assumption | refine Below.drew ?_ | refine below_drewN ?_ _ | refine Below.alloc ?_ (by first | omega | (simp; done) | (simp; omega)) _ | refine Below.setCell ?_ (by first | omega | (simp; done) | (simp; omega)) _ | refine Below.trans ?_ (Below.mono (by assumption) (by first | omega | (simp; done) | (simp; omega))))))
  have i0 : (0 : Int) ≤ (p : Int) := by omega
  have i1 : (p : Int) < (l.length : Int) := by omega
  clear hv ha
  go_enter Try.func33, Try.ntmps33
  go_upto_region 4 with (first | (go_at_call 17; ((with_reducible refine (HG.out _ (by repeat (first | exact Below.refl _ _ | assumption | refine Below.drew ?_ | refine below_drewN ?_ _ | refine Below.alloc ?_ (by first | omega | (simp; done) | (simp; omega)) _ | refine Below.setCell ?_ (by first | omega | (simp; done) | (simp; omega)) _ | refine Below.trans ?_ (Below.mono (by assumption) (by first | omega | (simp; done) | (simp; omega)))))).mono ?_); rintro e w1 ⟨rfl, hb1⟩; have hs1 := hb1.size; (try simp at hs1))) | (go_at_call 62; ((with_reducible refine (HI.out _).mono ?_); rintro e w' ⟨rfl, rfl⟩)) | (go_at_call 63; ((with_reducible refine (HO.out _ (by repeat (first | exact Below.refl _ _ | assumption | refine Below.drew ?_ | refine below_drewN ?_ _ | refine Below.alloc ?_ (by first | omega | (simp; done) | (simp; omega)) _ | refine Below.setCell ?_ (by first | omega | (simp; done) | (simp; omega)) _ | refine Below.trans ?_ (Below.mono (by assumption) (by first | omega | (simp; done) | (simp; omega)))))).mono ?_); rintro e w3 ⟨v3, rfl, ho3, hb3⟩; have hs3 := hb3.size; (try simp at hs3))))
  have hB3 : Below w.heap.size w w3 := (by repeat (first | exact Below.refl _ _ | assumption | refine Below.drew ?_ | refine below_drewN ?_ _ | refine Below.alloc ?_ (by first | omega | (simp; done) | (simp; omega)) _ | refine Below.setCell ?_ (by first | omega | (simp; done) | (simp; omega)) _ | refine Below.trans ?_ (Below.mono (by assumption) (by first | omega | (simp; done) | (simp; omega)))))
  have hs9 : w.heap.size < w3.heap.size := (by first | omega | (simp; done) | (simp; omega))
  have e0 : w3.cell? ⟨w.heap.size, 0, none⟩ = some (.int .i64 x) := (hb3.cell (p := ⟨w.heap.size, 0, none⟩) (by first | omega | (simp; done) | (simp; omega))).trans ((hb1.cell (p := ⟨w.heap.size, 0, none⟩) (by first | omega | (simp; done) | (simp; omega))).trans (by go_simp))
  have e1 : w3.cell? ⟨w.heap.size, 1, none⟩ = some (.int .i64 y) := (hb3.cell (p := ⟨w.heap.size, 1, none⟩) (by first | omega | (simp; done) | (simp; omega))).trans ((hb1.cell (p := ⟨w.heap.size, 1, none⟩) (by first | omega | (simp; done) | (simp; omega))).trans (by go_simp))
  have hgb1 : w.heap.size + 1 ≤ w1.heap.size := (by first | omega | (simp; done) | (simp; omega))
  have ho := own_mono (b' := w.heap.size + 1) ho3 hgb1
  clear ho3 hb3 hb1
  rcases own_formP ho with ⟨rfl, e2⟩ | ⟨g, cap', rfl, hgb, hgl⟩
  · rw [e2] at hp; exact absurd hp (by simp)
  obtain ⟨d0, d1, f0, f1⟩ := own_at ho hp
  have n1 : ¬ w.heap.size = g := by omega
  have n2 : ¬ g = w.heap.size := by omega
  have HST := Lib.hid (own_setP ho p x y)
  clear ho
  go_upto_region 5 with fail
  obtain ⟨W4, hW4⟩ : ∃ W, W = (w3.setCell ⟨g, p * 2, none⟩ (.int .i64 x)).setCell ⟨g, p * 2 + 1, none⟩ (.int .i64 y) := ⟨_, rfl⟩
  rw [← hW4] at HST ⊢
  have hB4 : Below w.heap.size w W4 := gb_below hB3 HST.out.2 (by omega)
  have hof : OwnPairs 41 W4 w.heap.size (.slice (some ⟨g, 0, none⟩) l.length cap') (l.set p (x, y)) := by
    unfold OwnPairs
    rw [List.length_set]
    exact own_mono2 HST.out.1 (by omega)
  have HOF := Lib.hid hof
  have hs4 := hB4.size
  clear hW4 hof e0 e1 d0 d1 f0 f1 hB3
  go_wp2_with (go_at_call 64; (refine (HCI.out _ _ _ HOF.out).mono ?_; rintro e w5 ⟨v5, rfl, ho5, hb5⟩; have hs5 := hb5.size))
  go_ret2
  exact ⟨_, rfl, own_mono ho5 (by first | omega | (simp; done) | (simp; omega)), (by repeat (first | exact Below.refl _ _ | assumption | refine Below.drew ?_ | refine below_drewN ?_ _ | refine Below.alloc ?_ (by first | omega | (simp; done) | (simp; omega)) _ | refine Below.setCell ?_ (by first | omega | (simp; done) | (simp; omega)) _ | refine Below.trans ?_ (Below.mono (by assumption) (by first | omega | (simp; done) | (simp; omega)))))⟩

theorem placeS_any (a : Option Addr) (cap : Nat) (l : List (Int × Int)) (hl : l.length ≤ 1048576) (hc : l.length ≤ cap) {w : World} (ha : PairsAt w a l) (i x y : Int) :
    Calls Try.prog 31 #[.slice a l.length cap, .int .i64 i, .agg #[.int .i64 x, .int .i64 y]] w fun e w' => ∃ v, e = .returned (.tuple #[v, .bool (plB l i x y)]) ∧ OwnPairs 41 w' w.heap.size v (plL l i x y) ∧ Below w.heap.size w w' := by
  cases h1 : plO l i
  · rw [(plL_no h1).1, (plL_no h1).2]
    have h : Calls Try.prog 31 #[.slice a l.length cap, .int .i64 i, .agg #[.int .i64 x, .int .i64 y]] w fun e w' => e = .returned (.tuple #[.slice none 0 0, .bool false]) ∧ Below w.heap.size w w' := by
      exact placeS_no a cap l hl hc ha i x y h1
    exact h.mono fun e w' ⟨he, hb⟩ => ⟨_, he, own_nil _ _ _, hb⟩
  · rw [(plL_yes h1).1, (plL_yes h1).2]
    unfold plO at h1
    rw [Bool.and_eq_true] at h1
    obtain ⟨p, rfl, hp⟩ := hasP_nat h1.2
    exact placeS_yes a cap l hl hc ha p x y h1.1 hp

theorem placeI_any (a : Option Addr) (cap : Nat) (l : List (Int × Int)) (hl : l.length ≤ 1048576) {w : World} (ha : PairsAt w a l) (i x y : Int) :
    Calls Try.prog 33 #[.slice a l.length cap, .int .i64 i, .agg #[.int .i64 x, .int .i64 y]] w fun e w' => ∃ v, e = .returned (.tuple #[v, .bool (plB l i x y)]) ∧ OwnPairs 41 w' w.heap.size v (plL l i x y) ∧ Below w.heap.size w w' := by
  cases h1 : plO l i
  · rw [(plL_no h1).1, (plL_no h1).2]
    have h : Calls Try.prog 33 #[.slice a l.length cap, .int .i64 i, .agg #[.int .i64 x, .int .i64 y]] w fun e w' => e = .returned (.tuple #[.slice none 0 0, .bool false]) ∧ Below w.heap.size w w' := by
      unfold plO at h1
      cases hv : chOk l
      · exact placeI_no1 a cap l hl ha i x y hv
      · rw [hv] at h1; exact placeI_no2 a cap l hl ha i x y hv h1
    exact h.mono fun e w' ⟨he, hb⟩ => ⟨_, he, own_nil _ _ _, hb⟩
  · rw [(plL_yes h1).1, (plL_yes h1).2]
    unfold plO at h1
    rw [Bool.and_eq_true] at h1
    obtain ⟨p, rfl, hp⟩ := hasP_nat h1.2
    exact placeI_yes a cap l hl ha p x y h1.1 hp

end Go.Proofs.Ytfimjfchdaioeaa
