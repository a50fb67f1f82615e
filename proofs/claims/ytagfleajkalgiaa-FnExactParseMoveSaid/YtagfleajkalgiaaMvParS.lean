/- ParseMove, spec's side. Conditions: those written in each theorem. -/
import Derived.Test.YtagfleajkalgiaaMvParI
import Derived.Test.YtagfleajkalgiaaStParseS
import Derived.Test.YtagfleajkalgiaaMvTextS
import Derived.Deep.RegionHeld3
import Derived.Deep.DrawnRows
import Derived.Deep.DeepCutAuto
import Derived.IntWalk
namespace Go.Proofs.Ytagfleajkalgiaa
open Go.RowKit


attribute [local go_sem ↓] Go.wp_at_zero Go.wp_at_succ

theorem okS_read {p : List UInt8} (h : okS p = true) : onField (spX p) (spY p) = true ∧ spotT (spX p) (spY p) = bs p := by
  by_cases hm : (44 : UInt8) ∈ p
  · obtain ⟨a, b, rfl, ha⟩ := spl_cut 44 p hm
    have hs := h
    rw [okS_some ha] at hs
    simp only [Bool.and_eq_true] at hs
    have hx : spX (a ++ 44 :: b) = readP a := by unfold spX; rw [h, cut_some ha]; rfl
    have hy : spY (a ++ 44 :: b) = readP b := by unfold spY; rw [h, cut_some ha]; rfl
    rw [hx, hy]
    exact ⟨hs.2, spot_read (okP_iff.1 hs.1.1).1 (okP_iff.1 hs.1.2).1⟩
  · rw [okS_none hm] at h
    cases h
/-- The text of the move that is read is what was read. -/
theorem move_read {p q t : List UInt8} (h1 : okS p = true) (h2 : okS q = true) (h3 : isMv (spX p) (spY p) (spX q) (spY q) (readL t) = true) : moveT (spX p) (spY p) (spX q) (spY q) (readL t) = bs (p ++ 32 :: (q ++ 32 :: t)) := by
  obtain ⟨_, _, n0, n1⟩ := isMv_iff.1 h3
  obtain ⟨c1, c2, c3⟩ := readL_can (l := t) (by omega)
  unfold moveT
  rw [(okS_read h1).2, (okS_read h2).2]
  have hd : decT (readL t).toNat = bs t := by
    rw [c3, Int.toNat_natCast]
    have := dec_num t c1
    unfold decT
    rw [this]
    rfl
  rw [hd]
  have e32 : (⟨#[32]⟩ : ByteArray) = bs [32] := rfl
  rw [e32, bs_app, bs_app, bs_app, bs_app]
  congr 1
  simp
theorem ptR_none {l : List UInt8} (h : (32 : UInt8) ∉ l) : pt1 l = l ∧ ptR l = [] := by unfold pt1 ptR; rw [cut_none h]; exact ⟨rfl, rfl⟩
theorem ptR_some {p r : List UInt8} (h : (32 : UInt8) ∉ p) : pt1 (p ++ 32 :: r) = p ∧ ptR (p ++ 32 :: r) = r := by unfold pt1 ptR; rw [cut_some h]; exact ⟨rfl, rfl⟩
theorem ptR_nil : pt1 [] = [] ∧ ptR [] = [] := ptR_none (by simp)
theorem okS_nil : okS [] = false := okS_none (by simp)

set_option maxHeartbeats 1000000 in
theorem specPM_one (l : List UInt8) {p : List UInt8} (hl : l.length ≤ 1048576) (h : splitL 32 l = [p]) (w : World) :
    Calls Try.prog 34 #[.string (bs l)] w fun e w' => e = .returned (.tuple #[.agg #[.int .i64 0, .int .i64 0, .int .i64 0, .int .i64 0, .int .i64 0], .bool false]) ∧ Below w.heap.size w w' := by
  have HS := Lib.hid (l1Split_form l 32 32 rfl hl h rfl)
  simp only [List.length_cons, List.length_nil] at HS
  obtain ⟨q1, q2, q3, q4, q5, q6, q7⟩ := nadd
  go_enter Try.func34, Try.ntmps34
  go_wp2_with (go_at_call 51; ((refine (HS.out _).mono ?_); rintro e w1 ⟨g, cap, rfl, hg, hgl, hcell, hb1⟩; clear hcell; have zl : w.heap.size < w1.heap.size := (by have := hb1.size; (try simp at this); omega); have dz0 : w1.cell? ⟨w.heap.size, 0, none⟩ = some (.int .i64 0) := (hb1.cell (p := ⟨w.heap.size, 0, none⟩) (by first | omega | (simp; done) | (simp; omega))).trans (by go_simp); have fz0 : w1.frozen? ⟨w.heap.size, 0, none⟩ = false := (hb1.frozen (p := ⟨w.heap.size, 0, none⟩) (by first | omega | (simp; done) | (simp; omega))).trans (by go_simp); have dz1 : w1.cell? ⟨w.heap.size, 1, none⟩ = some (.int .i64 0) := (hb1.cell (p := ⟨w.heap.size, 1, none⟩) (by first | omega | (simp; done) | (simp; omega))).trans (by go_simp); have fz1 : w1.frozen? ⟨w.heap.size, 1, none⟩ = false := (hb1.frozen (p := ⟨w.heap.size, 1, none⟩) (by first | omega | (simp; done) | (simp; omega))).trans (by go_simp); have dz2 : w1.cell? ⟨w.heap.size, 2, none⟩ = some (.int .i64 0) := (hb1.cell (p := ⟨w.heap.size, 2, none⟩) (by first | omega | (simp; done) | (simp; omega))).trans (by go_simp); have fz2 : w1.frozen? ⟨w.heap.size, 2, none⟩ = false := (hb1.frozen (p := ⟨w.heap.size, 2, none⟩) (by first | omega | (simp; done) | (simp; omega))).trans (by go_simp); have dz3 : w1.cell? ⟨w.heap.size, 3, none⟩ = some (.int .i64 0) := (hb1.cell (p := ⟨w.heap.size, 3, none⟩) (by first | omega | (simp; done) | (simp; omega))).trans (by go_simp); have fz3 : w1.frozen? ⟨w.heap.size, 3, none⟩ = false := (hb1.frozen (p := ⟨w.heap.size, 3, none⟩) (by first | omega | (simp; done) | (simp; omega))).trans (by go_simp); have dz4 : w1.cell? ⟨w.heap.size, 4, none⟩ = some (.int .i64 0) := (hb1.cell (p := ⟨w.heap.size, 4, none⟩) (by first | omega | (simp; done) | (simp; omega))).trans (by go_simp); have fz4 : w1.frozen? ⟨w.heap.size, 4, none⟩ = false := (hb1.frozen (p := ⟨w.heap.size, 4, none⟩) (by first | omega | (simp; done) | (simp; omega))).trans (by go_simp)))
  first | exact bodyPost_ret (v := .tuple #[.agg #[.int .i64 0, .int .i64 0, .int .i64 0, .int .i64 0, .int .i64 0], .bool false]) (by simp [results, Try.results34, go_sem, *]) rfl ⟨rfl, (by repeat (first | with_reducible exact Below.refl _ _ | with_reducible assumption | with_reducible refine Below.drew ?_ | with_reducible refine below_drewN ?_ _ | with_reducible refine Below.alloc ?_ (by first | omega | (simp; done) | (simp; omega)) _ | with_reducible refine Below.setCell ?_ (by first | omega | (simp; done) | (simp; omega)) _ | with_reducible refine Below.trans ?_ (Below.mono (by assumption) (by first | omega | (simp; done) | (simp; omega)))))⟩

set_option maxHeartbeats 1000000 in
theorem specPM_two (l : List UInt8) {p q : List UInt8} (hl : l.length ≤ 1048576) (h : splitL 32 l = [p, q]) (w : World) :
    Calls Try.prog 34 #[.string (bs l)] w fun e w' => e = .returned (.tuple #[.agg #[.int .i64 0, .int .i64 0, .int .i64 0, .int .i64 0, .int .i64 0], .bool false]) ∧ Below w.heap.size w w' := by
  have HS := Lib.hid (l1Split_form l 32 32 rfl hl h rfl)
  simp only [List.length_cons, List.length_nil] at HS
  obtain ⟨q1, q2, q3, q4, q5, q6, q7⟩ := nadd
  go_enter Try.func34, Try.ntmps34
  go_wp2_with (go_at_call 51; ((refine (HS.out _).mono ?_); rintro e w1 ⟨g, cap, rfl, hg, hgl, hcell, hb1⟩; clear hcell; have zl : w.heap.size < w1.heap.size := (by have := hb1.size; (try simp at this); omega); have dz0 : w1.cell? ⟨w.heap.size, 0, none⟩ = some (.int .i64 0) := (hb1.cell (p := ⟨w.heap.size, 0, none⟩) (by first | omega | (simp; done) | (simp; omega))).trans (by go_simp); have fz0 : w1.frozen? ⟨w.heap.size, 0, none⟩ = false := (hb1.frozen (p := ⟨w.heap.size, 0, none⟩) (by first | omega | (simp; done) | (simp; omega))).trans (by go_simp); have dz1 : w1.cell? ⟨w.heap.size, 1, none⟩ = some (.int .i64 0) := (hb1.cell (p := ⟨w.heap.size, 1, none⟩) (by first | omega | (simp; done) | (simp; omega))).trans (by go_simp); have fz1 : w1.frozen? ⟨w.heap.size, 1, none⟩ = false := (hb1.frozen (p := ⟨w.heap.size, 1, none⟩) (by first | omega | (simp; done) | (simp; omega))).trans (by go_simp); have dz2 : w1.cell? ⟨w.heap.size, 2, none⟩ = some (.int .i64 0) := (hb1.cell (p := ⟨w.heap.size, 2, none⟩) (by first | omega | (simp; done) | (simp; omega))).trans (by go_simp); have fz2 : w1.frozen? ⟨w.heap.size, 2, none⟩ = false := (hb1.frozen (p := ⟨w.heap.size, 2, none⟩) (by first | omega | (simp; done) | (simp; omega))).trans (by go_simp); have dz3 : w1.cell? ⟨w.heap.size, 3, none⟩ = some (.int .i64 0) := (hb1.cell (p := ⟨w.heap.size, 3, none⟩) (by first | omega | (simp; done) | (simp; omega))).trans (by go_simp); have fz3 : w1.frozen? ⟨w.heap.size, 3, none⟩ = false := (hb1.frozen (p := ⟨w.heap.size, 3, none⟩) (by first | omega | (simp; done) | (simp; omega))).trans (by go_simp); have dz4 : w1.cell? ⟨w.heap.size, 4, none⟩ = some (.int .i64 0) := (hb1.cell (p := ⟨w.heap.size, 4, none⟩) (by first | omega | (simp; done) | (simp; omega))).trans (by go_simp); have fz4 : w1.frozen? ⟨w.heap.size, 4, none⟩ = false := (hb1.frozen (p := ⟨w.heap.size, 4, none⟩) (by first | omega | (simp; done) | (simp; omega))).trans (by go_simp)))
  first | exact bodyPost_ret (v := .tuple #[.agg #[.int .i64 0, .int .i64 0, .int .i64 0, .int .i64 0, .int .i64 0], .bool false]) (by simp [results, Try.results34, go_sem, *]) rfl ⟨rfl, (by repeat (first | with_reducible exact Below.refl _ _ | with_reducible assumption | with_reducible refine Below.drew ?_ | with_reducible refine below_drewN ?_ _ | with_reducible refine Below.alloc ?_ (by first | omega | (simp; done) | (simp; omega)) _ | with_reducible refine Below.setCell ?_ (by first | omega | (simp; done) | (simp; omega)) _ | with_reducible refine Below.trans ?_ (Below.mono (by assumption) (by first | omega | (simp; done) | (simp; omega)))))⟩

set_option maxHeartbeats 1000000 in
theorem specPM_more (l : List UInt8) {p q r s : List UInt8} {t : List (List UInt8)} (hl : l.length ≤ 1048576) (h : splitL 32 l = p :: q :: r :: s :: t) (w : World) :
    Calls Try.prog 34 #[.string (bs l)] w fun e w' => e = .returned (.tuple #[.agg #[.int .i64 0, .int .i64 0, .int .i64 0, .int .i64 0, .int .i64 0], .bool false]) ∧ Below w.heap.size w w' := by
  have HS := Lib.hid (l1Split_form l 32 32 rfl hl h rfl)
  simp only [List.length_cons, List.length_nil] at HS
  have v1 : (((t.length : Int) + 1 + 1 + 1 + 1) == 3) = false := by rw [beq_eq_false_iff_ne]; omega
  obtain ⟨q1, q2, q3, q4, q5, q6, q7⟩ := nadd
  go_enter Try.func34, Try.ntmps34
  go_wp2_with (go_at_call 51; ((refine (HS.out _).mono ?_); rintro e w1 ⟨g, cap, rfl, hg, hgl, hcell, hb1⟩; clear hcell; have zl : w.heap.size < w1.heap.size := (by have := hb1.size; (try simp at this); omega); have dz0 : w1.cell? ⟨w.heap.size, 0, none⟩ = some (.int .i64 0) := (hb1.cell (p := ⟨w.heap.size, 0, none⟩) (by first | omega | (simp; done) | (simp; omega))).trans (by go_simp); have fz0 : w1.frozen? ⟨w.heap.size, 0, none⟩ = false := (hb1.frozen (p := ⟨w.heap.size, 0, none⟩) (by first | omega | (simp; done) | (simp; omega))).trans (by go_simp); have dz1 : w1.cell? ⟨w.heap.size, 1, none⟩ = some (.int .i64 0) := (hb1.cell (p := ⟨w.heap.size, 1, none⟩) (by first | omega | (simp; done) | (simp; omega))).trans (by go_simp); have fz1 : w1.frozen? ⟨w.heap.size, 1, none⟩ = false := (hb1.frozen (p := ⟨w.heap.size, 1, none⟩) (by first | omega | (simp; done) | (simp; omega))).trans (by go_simp); have dz2 : w1.cell? ⟨w.heap.size, 2, none⟩ = some (.int .i64 0) := (hb1.cell (p := ⟨w.heap.size, 2, none⟩) (by first | omega | (simp; done) | (simp; omega))).trans (by go_simp); have fz2 : w1.frozen? ⟨w.heap.size, 2, none⟩ = false := (hb1.frozen (p := ⟨w.heap.size, 2, none⟩) (by first | omega | (simp; done) | (simp; omega))).trans (by go_simp); have dz3 : w1.cell? ⟨w.heap.size, 3, none⟩ = some (.int .i64 0) := (hb1.cell (p := ⟨w.heap.size, 3, none⟩) (by first | omega | (simp; done) | (simp; omega))).trans (by go_simp); have fz3 : w1.frozen? ⟨w.heap.size, 3, none⟩ = false := (hb1.frozen (p := ⟨w.heap.size, 3, none⟩) (by first | omega | (simp; done) | (simp; omega))).trans (by go_simp); have dz4 : w1.cell? ⟨w.heap.size, 4, none⟩ = some (.int .i64 0) := (hb1.cell (p := ⟨w.heap.size, 4, none⟩) (by first | omega | (simp; done) | (simp; omega))).trans (by go_simp); have fz4 : w1.frozen? ⟨w.heap.size, 4, none⟩ = false := (hb1.frozen (p := ⟨w.heap.size, 4, none⟩) (by first | omega | (simp; done) | (simp; omega))).trans (by go_simp)))
  first | exact bodyPost_ret (v := .tuple #[.agg #[.int .i64 0, .int .i64 0, .int .i64 0, .int .i64 0, .int .i64 0], .bool false]) (by simp [results, Try.results34, go_sem, *]) rfl ⟨rfl, (by repeat (first | with_reducible exact Below.refl _ _ | with_reducible assumption | with_reducible refine Below.drew ?_ | with_reducible refine below_drewN ?_ _ | with_reducible refine Below.alloc ?_ (by first | omega | (simp; done) | (simp; omega)) _ | with_reducible refine Below.setCell ?_ (by first | omega | (simp; done) | (simp; omega)) _ | with_reducible refine Below.trans ?_ (Below.mono (by assumption) (by first | omega | (simp; done) | (simp; omega)))))⟩

set_option maxHeartbeats 4000000 in
theorem specPM_p (l : List UInt8) {p q t : List UInt8} (hl : l.length ≤ 1048576) (h : splitL 32 l = [p, q, t]) (hlq : l = p ++ 32 :: (q ++ 32 :: t)) (h1 : okS p = false) (w : World) :
    Calls Try.prog 34 #[.string (bs l)] w fun e w' => e = .returned (.tuple #[.agg #[.int .i64 0, .int .i64 0, .int .i64 0, .int .i64 0, .int .i64 0], .bool false]) ∧ Below w.heap.size w w' := by
  have HS := Lib.hid (l1Split_form l 32 32 rfl hl h rfl)
  simp only [List.length_cons, List.length_nil] at HS
  have hll : p.length ≤ 1048576 ∧ q.length ≤ 1048576 ∧ t.length ≤ 1048576 := by
    have := congrArg List.length hlq
    simp at this
    omega
  have HP := Lib.hid (fun W => stParse_any p hll.1 W)
  have HQ := Lib.hid (fun W => stParse_any q hll.2.1 W)
  have HR := Lib.hid (fun W => l1Read_any t W)
  unfold ansS at HP HQ
  rw [h1] at HP
  clear h1
  clear hlq hll h hl
  obtain ⟨X1, hX1⟩ : ∃ z, z = spX p := ⟨_, rfl⟩
  obtain ⟨Y1, hY1⟩ : ∃ z, z = spY p := ⟨_, rfl⟩
  obtain ⟨X2, hX2⟩ : ∃ z, z = spX q := ⟨_, rfl⟩
  obtain ⟨Y2, hY2⟩ : ∃ z, z = spY q := ⟨_, rfl⟩
  obtain ⟨N, hN⟩ : ∃ z, z = readL t := ⟨_, rfl⟩
  rw [← hX1, ← hY1] at HP
  rw [← hX2, ← hY2] at HQ
  rw [← hN] at HR
  clear hX1 hY1 hX2 hY2 hN
  obtain ⟨q1, q2, q3, q4, q5, q6, q7⟩ := nadd
  go_enter Try.func34, Try.ntmps34
  go_wp2_with fail
  refine (HS.out _).mono ?_
  rintro e w1 ⟨g, cap, rfl, hg, hgl, hcell, hb1⟩
  have cl0 := hcell 0 (by simp)
  have cl1 := hcell 1 (by simp)
  have cl2 := hcell 2 (by simp)
  clear hcell
  simp only [List.getElem_cons_zero, List.getElem_cons_succ] at cl0 cl1 cl2
  have hgw : w.heap.size < g := by simp at hg; omega
  have hs1 : w.heap.size < w1.heap.size := by omega
  have hB1 : Below w.heap.size w w1 := (by repeat (first | exact Below.refl _ _ | assumption | refine Below.drew ?_ | refine below_drewN ?_ _ | refine Below.alloc ?_ (by first | omega | (simp; done) | (simp; omega)) _ | refine Below.setCell ?_ (by first | omega | (simp; done) | (simp; omega)) _ | refine Below.trans ?_ (Below.mono (by assumption) (by first | omega | (simp; done) | (simp; omega)))))
  have r0w1 : w1.cell? ⟨w.heap.size, 0, none⟩ = some (.int .i64 0) := (hb1.cell (p := ⟨w.heap.size, 0, none⟩) (by first | omega | (simp; done) | (simp; omega))).trans (by go_simp)
  have z0w1 : w1.frozen? ⟨w.heap.size, 0, none⟩ = false := (hb1.frozen (p := ⟨w.heap.size, 0, none⟩) (by first | omega | (simp; done) | (simp; omega))).trans (by go_simp)
  have r1w1 : w1.cell? ⟨w.heap.size, 1, none⟩ = some (.int .i64 0) := (hb1.cell (p := ⟨w.heap.size, 1, none⟩) (by first | omega | (simp; done) | (simp; omega))).trans (by go_simp)
  have z1w1 : w1.frozen? ⟨w.heap.size, 1, none⟩ = false := (hb1.frozen (p := ⟨w.heap.size, 1, none⟩) (by first | omega | (simp; done) | (simp; omega))).trans (by go_simp)
  have r2w1 : w1.cell? ⟨w.heap.size, 2, none⟩ = some (.int .i64 0) := (hb1.cell (p := ⟨w.heap.size, 2, none⟩) (by first | omega | (simp; done) | (simp; omega))).trans (by go_simp)
  have z2w1 : w1.frozen? ⟨w.heap.size, 2, none⟩ = false := (hb1.frozen (p := ⟨w.heap.size, 2, none⟩) (by first | omega | (simp; done) | (simp; omega))).trans (by go_simp)
  have r3w1 : w1.cell? ⟨w.heap.size, 3, none⟩ = some (.int .i64 0) := (hb1.cell (p := ⟨w.heap.size, 3, none⟩) (by first | omega | (simp; done) | (simp; omega))).trans (by go_simp)
  have z3w1 : w1.frozen? ⟨w.heap.size, 3, none⟩ = false := (hb1.frozen (p := ⟨w.heap.size, 3, none⟩) (by first | omega | (simp; done) | (simp; omega))).trans (by go_simp)
  have r4w1 : w1.cell? ⟨w.heap.size, 4, none⟩ = some (.int .i64 0) := (hb1.cell (p := ⟨w.heap.size, 4, none⟩) (by first | omega | (simp; done) | (simp; omega))).trans (by go_simp)
  have z4w1 : w1.frozen? ⟨w.heap.size, 4, none⟩ = false := (hb1.frozen (p := ⟨w.heap.size, 4, none⟩) (by first | omega | (simp; done) | (simp; omega))).trans (by go_simp)
  clear hb1 hg
  go_wp2_with fail
  refine (HP.out _).mono ?_
  rintro e w2 ⟨rfl, hb2⟩
  have hs2 := hb2.size
  have hB2 : Below w.heap.size w w2 := hB1.trans (hb2.mono (by omega))
  have cl1 := (hb2.cell (p := ⟨g, 1, none⟩) hgl).trans cl1
  have cl2 := (hb2.cell (p := ⟨g, 2, none⟩) hgl).trans cl2
  have hgl2 : g < w2.heap.size := by omega
  have hw2 : w.heap.size < w2.heap.size := by omega
  have r0w2 : w2.cell? ⟨w.heap.size, 0, none⟩ = some (.int .i64 0) := (hb2.cell (p := ⟨w.heap.size, 0, none⟩) (by first | omega | (simp; done) | (simp; omega))).trans r0w1
  have z0w2 : w2.frozen? ⟨w.heap.size, 0, none⟩ = false := (hb2.frozen (p := ⟨w.heap.size, 0, none⟩) (by first | omega | (simp; done) | (simp; omega))).trans z0w1
  have r1w2 : w2.cell? ⟨w.heap.size, 1, none⟩ = some (.int .i64 0) := (hb2.cell (p := ⟨w.heap.size, 1, none⟩) (by first | omega | (simp; done) | (simp; omega))).trans r1w1
  have z1w2 : w2.frozen? ⟨w.heap.size, 1, none⟩ = false := (hb2.frozen (p := ⟨w.heap.size, 1, none⟩) (by first | omega | (simp; done) | (simp; omega))).trans z1w1
  have r2w2 : w2.cell? ⟨w.heap.size, 2, none⟩ = some (.int .i64 0) := (hb2.cell (p := ⟨w.heap.size, 2, none⟩) (by first | omega | (simp; done) | (simp; omega))).trans r2w1
  have z2w2 : w2.frozen? ⟨w.heap.size, 2, none⟩ = false := (hb2.frozen (p := ⟨w.heap.size, 2, none⟩) (by first | omega | (simp; done) | (simp; omega))).trans z2w1
  have r3w2 : w2.cell? ⟨w.heap.size, 3, none⟩ = some (.int .i64 0) := (hb2.cell (p := ⟨w.heap.size, 3, none⟩) (by first | omega | (simp; done) | (simp; omega))).trans r3w1
  have z3w2 : w2.frozen? ⟨w.heap.size, 3, none⟩ = false := (hb2.frozen (p := ⟨w.heap.size, 3, none⟩) (by first | omega | (simp; done) | (simp; omega))).trans z3w1
  have r4w2 : w2.cell? ⟨w.heap.size, 4, none⟩ = some (.int .i64 0) := (hb2.cell (p := ⟨w.heap.size, 4, none⟩) (by first | omega | (simp; done) | (simp; omega))).trans r4w1
  have z4w2 : w2.frozen? ⟨w.heap.size, 4, none⟩ = false := (hb2.frozen (p := ⟨w.heap.size, 4, none⟩) (by first | omega | (simp; done) | (simp; omega))).trans z4w1
  clear hb2
  go_wp2_with fail
  refine (HQ.out _).mono ?_
  rintro e w3 ⟨rfl, hb3⟩
  have hs3 := hb3.size
  simp at hs3
  have hB3 : Below w.heap.size w w3 := (by repeat (first | exact Below.refl _ _ | assumption | refine Below.drew ?_ | refine below_drewN ?_ _ | refine Below.alloc ?_ (by first | omega | (simp; done) | (simp; omega)) _ | refine Below.setCell ?_ (by first | omega | (simp; done) | (simp; omega)) _ | refine Below.trans ?_ (Below.mono (by assumption) (by first | omega | (simp; done) | (simp; omega)))))
  have cl2 : w3.cell? ⟨g, 2, none⟩ = some (.string (bs t)) := (hb3.cell (p := ⟨g, 2, none⟩) (by first | omega | (simp; done) | (simp; omega))).trans ((World.cell?_alloc_past _ _ _ (by first | omega | (simp; done) | (simp; omega))).trans cl2)
  have b50 : w3.cell? ⟨w2.heap.size, 0, none⟩ = some (.int .i64 X1) := (hb3.cell (p := ⟨w2.heap.size, 0, none⟩) (by first | omega | (simp; done) | (simp; omega))).trans (by go_simp)
  have b51 : w3.cell? ⟨w2.heap.size, 1, none⟩ = some (.int .i64 Y1) := (hb3.cell (p := ⟨w2.heap.size, 1, none⟩) (by first | omega | (simp; done) | (simp; omega))).trans (by go_simp)
  have r0w3 : w3.cell? ⟨w.heap.size, 0, none⟩ = some (.int .i64 0) := (hb3.cell (p := ⟨w.heap.size, 0, none⟩) (by first | omega | (simp; done) | (simp; omega))).trans ((World.cell?_alloc_past _ _ _ (by first | omega | (simp; done) | (simp; omega))).trans r0w2)
  have z0w3 : w3.frozen? ⟨w.heap.size, 0, none⟩ = false := (hb3.frozen (p := ⟨w.heap.size, 0, none⟩) (by first | omega | (simp; done) | (simp; omega))).trans (by have := z0w2; go_simp)
  have r1w3 : w3.cell? ⟨w.heap.size, 1, none⟩ = some (.int .i64 0) := (hb3.cell (p := ⟨w.heap.size, 1, none⟩) (by first | omega | (simp; done) | (simp; omega))).trans ((World.cell?_alloc_past _ _ _ (by first | omega | (simp; done) | (simp; omega))).trans r1w2)
  have z1w3 : w3.frozen? ⟨w.heap.size, 1, none⟩ = false := (hb3.frozen (p := ⟨w.heap.size, 1, none⟩) (by first | omega | (simp; done) | (simp; omega))).trans (by have := z1w2; go_simp)
  have r2w3 : w3.cell? ⟨w.heap.size, 2, none⟩ = some (.int .i64 0) := (hb3.cell (p := ⟨w.heap.size, 2, none⟩) (by first | omega | (simp; done) | (simp; omega))).trans ((World.cell?_alloc_past _ _ _ (by first | omega | (simp; done) | (simp; omega))).trans r2w2)
  have z2w3 : w3.frozen? ⟨w.heap.size, 2, none⟩ = false := (hb3.frozen (p := ⟨w.heap.size, 2, none⟩) (by first | omega | (simp; done) | (simp; omega))).trans (by have := z2w2; go_simp)
  have r3w3 : w3.cell? ⟨w.heap.size, 3, none⟩ = some (.int .i64 0) := (hb3.cell (p := ⟨w.heap.size, 3, none⟩) (by first | omega | (simp; done) | (simp; omega))).trans ((World.cell?_alloc_past _ _ _ (by first | omega | (simp; done) | (simp; omega))).trans r3w2)
  have z3w3 : w3.frozen? ⟨w.heap.size, 3, none⟩ = false := (hb3.frozen (p := ⟨w.heap.size, 3, none⟩) (by first | omega | (simp; done) | (simp; omega))).trans (by have := z3w2; go_simp)
  have r4w3 : w3.cell? ⟨w.heap.size, 4, none⟩ = some (.int .i64 0) := (hb3.cell (p := ⟨w.heap.size, 4, none⟩) (by first | omega | (simp; done) | (simp; omega))).trans ((World.cell?_alloc_past _ _ _ (by first | omega | (simp; done) | (simp; omega))).trans r4w2)
  have z4w3 : w3.frozen? ⟨w.heap.size, 4, none⟩ = false := (hb3.frozen (p := ⟨w.heap.size, 4, none⟩) (by first | omega | (simp; done) | (simp; omega))).trans (by have := z4w2; go_simp)
  clear hb3 cl0 cl1
  go_upto_region 6 with fail
  obtain ⟨W3, hW3⟩ : ∃ W3, W3 = w3.alloc (.cells #[.int .i64 X2, .int .i64 Y2] 27) := ⟨_, rfl⟩
  have hW3b : Below w3.heap.size w3 W3 := by rw [hW3]; exact (Below.refl _ _).alloc (Nat.le_refl _) _
  have hW3s : W3.heap.size = w3.heap.size + 1 := by rw [hW3]; simp
  have d70 : W3.cell? ⟨w3.heap.size, 0, none⟩ = some (.int .i64 X2) := by rw [hW3]; go_simp
  have d71 : W3.cell? ⟨w3.heap.size, 1, none⟩ = some (.int .i64 Y2) := by rw [hW3]; go_simp
  rw [← hW3]
  clear hW3
  have d50 := (hW3b.cell (p := ⟨w2.heap.size, 0, none⟩) (by first | omega | (simp; done) | (simp; omega))).trans b50
  have d51 := (hW3b.cell (p := ⟨w2.heap.size, 1, none⟩) (by first | omega | (simp; done) | (simp; omega))).trans b51
  have d2 := (hW3b.cell (p := ⟨g, 2, none⟩) (by first | omega | (simp; done) | (simp; omega))).trans cl2
  have r0W3 : W3.cell? ⟨w.heap.size, 0, none⟩ = some (.int .i64 0) := (hW3b.cell (p := ⟨w.heap.size, 0, none⟩) (by first | omega | (simp; done) | (simp; omega))).trans r0w3
  have z0W3 : W3.frozen? ⟨w.heap.size, 0, none⟩ = false := (hW3b.frozen (p := ⟨w.heap.size, 0, none⟩) (by first | omega | (simp; done) | (simp; omega))).trans z0w3
  have r1W3 : W3.cell? ⟨w.heap.size, 1, none⟩ = some (.int .i64 0) := (hW3b.cell (p := ⟨w.heap.size, 1, none⟩) (by first | omega | (simp; done) | (simp; omega))).trans r1w3
  have z1W3 : W3.frozen? ⟨w.heap.size, 1, none⟩ = false := (hW3b.frozen (p := ⟨w.heap.size, 1, none⟩) (by first | omega | (simp; done) | (simp; omega))).trans z1w3
  have r2W3 : W3.cell? ⟨w.heap.size, 2, none⟩ = some (.int .i64 0) := (hW3b.cell (p := ⟨w.heap.size, 2, none⟩) (by first | omega | (simp; done) | (simp; omega))).trans r2w3
  have z2W3 : W3.frozen? ⟨w.heap.size, 2, none⟩ = false := (hW3b.frozen (p := ⟨w.heap.size, 2, none⟩) (by first | omega | (simp; done) | (simp; omega))).trans z2w3
  have r3W3 : W3.cell? ⟨w.heap.size, 3, none⟩ = some (.int .i64 0) := (hW3b.cell (p := ⟨w.heap.size, 3, none⟩) (by first | omega | (simp; done) | (simp; omega))).trans r3w3
  have z3W3 : W3.frozen? ⟨w.heap.size, 3, none⟩ = false := (hW3b.frozen (p := ⟨w.heap.size, 3, none⟩) (by first | omega | (simp; done) | (simp; omega))).trans z3w3
  have r4W3 : W3.cell? ⟨w.heap.size, 4, none⟩ = some (.int .i64 0) := (hW3b.cell (p := ⟨w.heap.size, 4, none⟩) (by first | omega | (simp; done) | (simp; omega))).trans r4w3
  have z4W3 : W3.frozen? ⟨w.heap.size, 4, none⟩ = false := (hW3b.frozen (p := ⟨w.heap.size, 4, none⟩) (by first | omega | (simp; done) | (simp; omega))).trans z4w3
  have hB4 : Below w.heap.size w W3 := hB3.trans (hW3b.mono (by omega))
  have hgW : g < W3.heap.size := by omega
  have h5W : w2.heap.size < W3.heap.size := by omega
  have h7W : w3.heap.size < W3.heap.size := by omega
  have hl1 : ∀ b, b < W3.heap.size → b < W3.heap.size := fun _ h => h
  clear b50 b51 cl2 hB1 hB2 hB3 hW3b
  go_cut [9] (fun s9 wx => ∃ k : Nat, s9 = .pointer (some ⟨k, 0, none⟩) ∧ W3.heap.size ≤ k ∧ k < wx.heap.size ∧ wx.cell? ⟨k, 0, none⟩ = some (.int .i64 X1) ∧ wx.cell? ⟨k, 1, none⟩ = some (.int .i64 Y1) ∧ wx.cell? ⟨k, 2, none⟩ = some (.int .i64 X2) ∧ wx.cell? ⟨k, 3, none⟩ = some (.int .i64 Y2) ∧ wx.cell? ⟨k, 4, none⟩ = some (.int .i64 N) ∧ Below W3.heap.size W3 wx)
  case first =>
    go_region_held3 (fun w' => w'.cell? ⟨w2.heap.size, 0, none⟩ = some (.int .i64 X1) ∧ w'.cell? ⟨w2.heap.size, 1, none⟩ = some (.int .i64 Y1) ∧ w'.cell? ⟨w3.heap.size, 0, none⟩ = some (.int .i64 X2) ∧ w'.cell? ⟨w3.heap.size, 1, none⟩ = some (.int .i64 Y2) ∧ w'.cell? ⟨g, 2, none⟩ = some (.string (bs t))) ((first | (rename_i hH K0 hK0; obtain ⟨e0, e1, e2, e3, e4⟩ := hH; first | (with_reducible exact ⟨e0, e1, e2, e3, e4⟩) | (with_reducible exact ⟨(hb1.cell (p := ⟨w2.heap.size, 0, none⟩) (by first | omega | (simp; done) | (simp; omega))).trans e0, (hb1.cell (p := ⟨w2.heap.size, 1, none⟩) (by first | omega | (simp; done) | (simp; omega))).trans e1, (hb1.cell (p := ⟨w3.heap.size, 0, none⟩) (by first | omega | (simp; done) | (simp; omega))).trans e2, (hb1.cell (p := ⟨w3.heap.size, 1, none⟩) (by first | omega | (simp; done) | (simp; omega))).trans e3, (hb1.cell (p := ⟨g, 2, none⟩) (by first | omega | (simp; done) | (simp; omega))).trans e4⟩) | (with_reducible exact ⟨(World.cell?_alloc_past _ _ _ (by first | omega | (simp; omega))).trans e0, (World.cell?_alloc_past _ _ _ (by first | omega | (simp; omega))).trans e1, (World.cell?_alloc_past _ _ _ (by first | omega | (simp; omega))).trans e2, (World.cell?_alloc_past _ _ _ (by first | omega | (simp; omega))).trans e3, (World.cell?_alloc_past _ _ _ (by first | omega | (simp; omega))).trans e4⟩) | (with_reducible exact ⟨(World.cell?_alloc_past _ _ _ (by first | omega | (simp; omega))).trans ((World.cell?_alloc_past (.cells #[.int .i64 0, .int .i64 0, .int .i64 0, .int .i64 0, .int .i64 0] 29) _ _ (by first | omega | (simp; omega))).symm.trans e0), (World.cell?_alloc_past _ _ _ (by first | omega | (simp; omega))).trans ((World.cell?_alloc_past (.cells #[.int .i64 0, .int .i64 0, .int .i64 0, .int .i64 0, .int .i64 0] 29) _ _ (by first | omega | (simp; omega))).symm.trans e1), (World.cell?_alloc_past _ _ _ (by first | omega | (simp; omega))).trans ((World.cell?_alloc_past (.cells #[.int .i64 0, .int .i64 0, .int .i64 0, .int .i64 0, .int .i64 0] 29) _ _ (by first | omega | (simp; omega))).symm.trans e2), (World.cell?_alloc_past _ _ _ (by first | omega | (simp; omega))).trans ((World.cell?_alloc_past (.cells #[.int .i64 0, .int .i64 0, .int .i64 0, .int .i64 0, .int .i64 0] 29) _ _ (by first | omega | (simp; omega))).symm.trans e3), (World.cell?_alloc_past _ _ _ (by first | omega | (simp; omega))).trans ((World.cell?_alloc_past (.cells #[.int .i64 0, .int .i64 0, .int .i64 0, .int .i64 0, .int .i64 0] 29) _ _ (by first | omega | (simp; omega))).symm.trans e4)⟩) | (with_reducible exact ⟨(World.cell?_setCell_far _ _ _ _ (by intro e; dsimp only at e; omega)).trans ((World.cell?_setCell_far _ _ _ _ (by intro e; dsimp only at e; omega)).trans ((World.cell?_setCell_far _ _ _ _ (by intro e; dsimp only at e; omega)).trans ((World.cell?_setCell_far _ _ _ _ (by intro e; dsimp only at e; omega)).trans ((World.cell?_setCell_far _ _ _ _ (by intro e; dsimp only at e; omega)).trans (e0))))), (World.cell?_setCell_far _ _ _ _ (by intro e; dsimp only at e; omega)).trans ((World.cell?_setCell_far _ _ _ _ (by intro e; dsimp only at e; omega)).trans ((World.cell?_setCell_far _ _ _ _ (by intro e; dsimp only at e; omega)).trans ((World.cell?_setCell_far _ _ _ _ (by intro e; dsimp only at e; omega)).trans ((World.cell?_setCell_far _ _ _ _ (by intro e; dsimp only at e; omega)).trans (e1))))), (World.cell?_setCell_far _ _ _ _ (by intro e; dsimp only at e; omega)).trans ((World.cell?_setCell_far _ _ _ _ (by intro e; dsimp only at e; omega)).trans ((World.cell?_setCell_far _ _ _ _ (by intro e; dsimp only at e; omega)).trans ((World.cell?_setCell_far _ _ _ _ (by intro e; dsimp only at e; omega)).trans ((World.cell?_setCell_far _ _ _ _ (by intro e; dsimp only at e; omega)).trans (e2))))), (World.cell?_setCell_far _ _ _ _ (by intro e; dsimp only at e; omega)).trans ((World.cell?_setCell_far _ _ _ _ (by intro e; dsimp only at e; omega)).trans ((World.cell?_setCell_far _ _ _ _ (by intro e; dsimp only at e; omega)).trans ((World.cell?_setCell_far _ _ _ _ (by intro e; dsimp only at e; omega)).trans ((World.cell?_setCell_far _ _ _ _ (by intro e; dsimp only at e; omega)).trans (e3))))), (World.cell?_setCell_far _ _ _ _ (by intro e; dsimp only at e; omega)).trans ((World.cell?_setCell_far _ _ _ _ (by intro e; dsimp only at e; omega)).trans ((World.cell?_setCell_far _ _ _ _ (by intro e; dsimp only at e; omega)).trans ((World.cell?_setCell_far _ _ _ _ (by intro e; dsimp only at e; omega)).trans ((World.cell?_setCell_far _ _ _ _ (by intro e; dsimp only at e; omega)).trans (e4)))))⟩)) | (refine ⟨?_, ?_, ?_, ?_, ?_⟩ <;> first | (go_keep; done) | (simp [*, World.cell?_alloc_past, World.cell?_setCell_far]; done) | (simp [*, World.cell?_alloc_past, World.cell?_alloc_at, World.cell?_setCell_far]; done) | (go_simp; done))))
      (first | (go_at_call 53; ((with_reducible refine (HR.out _).mono ?_); rintro e w1 ⟨rfl, hb1⟩; have hs1 := hb1.size; (try simp at hs1); (first | have hk4 := call_facts hl3 hb1 (by simp) | skip); (first | have hk3 := call_facts hl2 hb1 (by simp) | skip); (first | have hk2 := call_facts hl1 hb1 (by simp) | skip); have hk1 := call_facts (fun b h => h) hb1 (Nat.le_refl _); (first | have hl4 := hk4.1 | skip); (first | have hl3 := hk3.1 | skip); (first | have hl2 := hk2.1 | skip); have hl1 := hk1.1)))
    all_goals
      go_wp2_with fail
      go_meet
      refine ⟨_, rfl, ?_, ?_, ?_, ?_, ?_, ?_, ?_, (by repeat (first | exact Below.refl _ _ | assumption | refine Below.drew ?_ | refine below_drewN ?_ _ | refine Below.alloc ?_ (by first | omega | (simp; done) | (simp; omega)) _ | refine Below.setCell ?_ (by first | omega | (simp; done) | (simp; omega)) _ | refine Below.trans ?_ (Below.mono (by assumption) (by first | omega | (simp; done) | (simp; omega)))))⟩
      all_goals first | (omega; done) | (simp; done) | (simp; omega) | (go_simp; done) | (simp [*, World.cell?_alloc_past, World.cell?_alloc_at]; done)
  case rest =>
    obtain ⟨k, rfl, hk, hkl, k0, k1, k2, k3, k4, hbw⟩ := hcut
    have hws := hbw.size
    have hkn : ¬ k = w.heap.size := by omega
    have hkn2 : ¬ w.heap.size = k := by omega
    have hwl : w.heap.size < wc.heap.size := by omega
    have r0wc : wc.cell? ⟨w.heap.size, 0, none⟩ = some (.int .i64 0) := (hbw.cell (p := ⟨w.heap.size, 0, none⟩) (by first | omega | (simp; done) | (simp; omega))).trans r0W3
    have z0wc : wc.frozen? ⟨w.heap.size, 0, none⟩ = false := (hbw.frozen (p := ⟨w.heap.size, 0, none⟩) (by first | omega | (simp; done) | (simp; omega))).trans z0W3
    have r1wc : wc.cell? ⟨w.heap.size, 1, none⟩ = some (.int .i64 0) := (hbw.cell (p := ⟨w.heap.size, 1, none⟩) (by first | omega | (simp; done) | (simp; omega))).trans r1W3
    have z1wc : wc.frozen? ⟨w.heap.size, 1, none⟩ = false := (hbw.frozen (p := ⟨w.heap.size, 1, none⟩) (by first | omega | (simp; done) | (simp; omega))).trans z1W3
    have r2wc : wc.cell? ⟨w.heap.size, 2, none⟩ = some (.int .i64 0) := (hbw.cell (p := ⟨w.heap.size, 2, none⟩) (by first | omega | (simp; done) | (simp; omega))).trans r2W3
    have z2wc : wc.frozen? ⟨w.heap.size, 2, none⟩ = false := (hbw.frozen (p := ⟨w.heap.size, 2, none⟩) (by first | omega | (simp; done) | (simp; omega))).trans z2W3
    have r3wc : wc.cell? ⟨w.heap.size, 3, none⟩ = some (.int .i64 0) := (hbw.cell (p := ⟨w.heap.size, 3, none⟩) (by first | omega | (simp; done) | (simp; omega))).trans r3W3
    have z3wc : wc.frozen? ⟨w.heap.size, 3, none⟩ = false := (hbw.frozen (p := ⟨w.heap.size, 3, none⟩) (by first | omega | (simp; done) | (simp; omega))).trans z3W3
    have r4wc : wc.cell? ⟨w.heap.size, 4, none⟩ = some (.int .i64 0) := (hbw.cell (p := ⟨w.heap.size, 4, none⟩) (by first | omega | (simp; done) | (simp; omega))).trans r4W3
    have z4wc : wc.frozen? ⟨w.heap.size, 4, none⟩ = false := (hbw.frozen (p := ⟨w.heap.size, 4, none⟩) (by first | omega | (simp; done) | (simp; omega))).trans z4W3
    have hB5 : Below w.heap.size w wc := hB4.trans (hbw.mono (by omega))
    clear hbw r0W3 z0W3 r1W3 z1W3 r2W3 z2W3 r3W3 z3W3 r4W3 z4W3 hB4
    go_wp2_with fail
    first | exact bodyPost_ret (v := .tuple #[.agg #[.int .i64 0, .int .i64 0, .int .i64 0, .int .i64 0, .int .i64 0], .bool false]) (by simp [results, Try.results34, go_sem, *]) rfl ⟨rfl, (by repeat (first | with_reducible exact Below.refl _ _ | with_reducible assumption | with_reducible refine Below.drew ?_ | with_reducible refine below_drewN ?_ _ | with_reducible refine Below.alloc ?_ (by first | omega | (simp; done) | (simp; omega)) _ | with_reducible refine Below.setCell ?_ (by first | omega | (simp; done) | (simp; omega)) _ | with_reducible refine Below.trans ?_ (Below.mono (by assumption) (by first | omega | (simp; done) | (simp; omega)))))⟩

set_option maxHeartbeats 4000000 in
theorem specPM_q (l : List UInt8) {p q t : List UInt8} (hl : l.length ≤ 1048576) (h : splitL 32 l = [p, q, t]) (hlq : l = p ++ 32 :: (q ++ 32 :: t)) (h1 : okS p = true) (h2 : okS q = false) (w : World) :
    Calls Try.prog 34 #[.string (bs l)] w fun e w' => e = .returned (.tuple #[.agg #[.int .i64 0, .int .i64 0, .int .i64 0, .int .i64 0, .int .i64 0], .bool false]) ∧ Below w.heap.size w w' := by
  have HS := Lib.hid (l1Split_form l 32 32 rfl hl h rfl)
  simp only [List.length_cons, List.length_nil] at HS
  have hll : p.length ≤ 1048576 ∧ q.length ≤ 1048576 ∧ t.length ≤ 1048576 := by
    have := congrArg List.length hlq
    simp at this
    omega
  have HP := Lib.hid (fun W => stParse_any p hll.1 W)
  have HQ := Lib.hid (fun W => stParse_any q hll.2.1 W)
  have HR := Lib.hid (fun W => l1Read_any t W)
  unfold ansS at HP HQ
  rw [h1] at HP
  rw [h2] at HQ
  clear h1 h2
  clear hlq hll h hl
  obtain ⟨X1, hX1⟩ : ∃ z, z = spX p := ⟨_, rfl⟩
  obtain ⟨Y1, hY1⟩ : ∃ z, z = spY p := ⟨_, rfl⟩
  obtain ⟨X2, hX2⟩ : ∃ z, z = spX q := ⟨_, rfl⟩
  obtain ⟨Y2, hY2⟩ : ∃ z, z = spY q := ⟨_, rfl⟩
  obtain ⟨N, hN⟩ : ∃ z, z = readL t := ⟨_, rfl⟩
  rw [← hX1, ← hY1] at HP
  rw [← hX2, ← hY2] at HQ
  rw [← hN] at HR
  clear hX1 hY1 hX2 hY2 hN
  obtain ⟨q1, q2, q3, q4, q5, q6, q7⟩ := nadd
  go_enter Try.func34, Try.ntmps34
  go_wp2_with fail
  refine (HS.out _).mono ?_
  rintro e w1 ⟨g, cap, rfl, hg, hgl, hcell, hb1⟩
  have cl0 := hcell 0 (by simp)
  have cl1 := hcell 1 (by simp)
  have cl2 := hcell 2 (by simp)
  clear hcell
  simp only [List.getElem_cons_zero, List.getElem_cons_succ] at cl0 cl1 cl2
  have hgw : w.heap.size < g := by simp at hg; omega
  have hs1 : w.heap.size < w1.heap.size := by omega
  have hB1 : Below w.heap.size w w1 := (by repeat (first | exact Below.refl _ _ | assumption | refine Below.drew ?_ | refine below_drewN ?_ _ | refine Below.alloc ?_ (by first | omega | (simp; done) | (simp; omega)) _ | refine Below.setCell ?_ (by first | omega | (simp; done) | (simp; omega)) _ | refine Below.trans ?_ (Below.mono (by assumption) (by first | omega | (simp; done) | (simp; omega)))))
  have r0w1 : w1.cell? ⟨w.heap.size, 0, none⟩ = some (.int .i64 0) := (hb1.cell (p := ⟨w.heap.size, 0, none⟩) (by first | omega | (simp; done) | (simp; omega))).trans (by go_simp)
  have z0w1 : w1.frozen? ⟨w.heap.size, 0, none⟩ = false := (hb1.frozen (p := ⟨w.heap.size, 0, none⟩) (by first | omega | (simp; done) | (simp; omega))).trans (by go_simp)
  have r1w1 : w1.cell? ⟨w.heap.size, 1, none⟩ = some (.int .i64 0) := (hb1.cell (p := ⟨w.heap.size, 1, none⟩) (by first | omega | (simp; done) | (simp; omega))).trans (by go_simp)
  have z1w1 : w1.frozen? ⟨w.heap.size, 1, none⟩ = false := (hb1.frozen (p := ⟨w.heap.size, 1, none⟩) (by first | omega | (simp; done) | (simp; omega))).trans (by go_simp)
  have r2w1 : w1.cell? ⟨w.heap.size, 2, none⟩ = some (.int .i64 0) := (hb1.cell (p := ⟨w.heap.size, 2, none⟩) (by first | omega | (simp; done) | (simp; omega))).trans (by go_simp)
  have z2w1 : w1.frozen? ⟨w.heap.size, 2, none⟩ = false := (hb1.frozen (p := ⟨w.heap.size, 2, none⟩) (by first | omega | (simp; done) | (simp; omega))).trans (by go_simp)
  have r3w1 : w1.cell? ⟨w.heap.size, 3, none⟩ = some (.int .i64 0) := (hb1.cell (p := ⟨w.heap.size, 3, none⟩) (by first | omega | (simp; done) | (simp; omega))).trans (by go_simp)
  have z3w1 : w1.frozen? ⟨w.heap.size, 3, none⟩ = false := (hb1.frozen (p := ⟨w.heap.size, 3, none⟩) (by first | omega | (simp; done) | (simp; omega))).trans (by go_simp)
  have r4w1 : w1.cell? ⟨w.heap.size, 4, none⟩ = some (.int .i64 0) := (hb1.cell (p := ⟨w.heap.size, 4, none⟩) (by first | omega | (simp; done) | (simp; omega))).trans (by go_simp)
  have z4w1 : w1.frozen? ⟨w.heap.size, 4, none⟩ = false := (hb1.frozen (p := ⟨w.heap.size, 4, none⟩) (by first | omega | (simp; done) | (simp; omega))).trans (by go_simp)
  clear hb1 hg
  go_wp2_with fail
  refine (HP.out _).mono ?_
  rintro e w2 ⟨rfl, hb2⟩
  have hs2 := hb2.size
  have hB2 : Below w.heap.size w w2 := hB1.trans (hb2.mono (by omega))
  have cl1 := (hb2.cell (p := ⟨g, 1, none⟩) hgl).trans cl1
  have cl2 := (hb2.cell (p := ⟨g, 2, none⟩) hgl).trans cl2
  have hgl2 : g < w2.heap.size := by omega
  have hw2 : w.heap.size < w2.heap.size := by omega
  have r0w2 : w2.cell? ⟨w.heap.size, 0, none⟩ = some (.int .i64 0) := (hb2.cell (p := ⟨w.heap.size, 0, none⟩) (by first | omega | (simp; done) | (simp; omega))).trans r0w1
  have z0w2 : w2.frozen? ⟨w.heap.size, 0, none⟩ = false := (hb2.frozen (p := ⟨w.heap.size, 0, none⟩) (by first | omega | (simp; done) | (simp; omega))).trans z0w1
  have r1w2 : w2.cell? ⟨w.heap.size, 1, none⟩ = some (.int .i64 0) := (hb2.cell (p := ⟨w.heap.size, 1, none⟩) (by first | omega | (simp; done) | (simp; omega))).trans r1w1
  have z1w2 : w2.frozen? ⟨w.heap.size, 1, none⟩ = false := (hb2.frozen (p := ⟨w.heap.size, 1, none⟩) (by first | omega | (simp; done) | (simp; omega))).trans z1w1
  have r2w2 : w2.cell? ⟨w.heap.size, 2, none⟩ = some (.int .i64 0) := (hb2.cell (p := ⟨w.heap.size, 2, none⟩) (by first | omega | (simp; done) | (simp; omega))).trans r2w1
  have z2w2 : w2.frozen? ⟨w.heap.size, 2, none⟩ = false := (hb2.frozen (p := ⟨w.heap.size, 2, none⟩) (by first | omega | (simp; done) | (simp; omega))).trans z2w1
  have r3w2 : w2.cell? ⟨w.heap.size, 3, none⟩ = some (.int .i64 0) := (hb2.cell (p := ⟨w.heap.size, 3, none⟩) (by first | omega | (simp; done) | (simp; omega))).trans r3w1
  have z3w2 : w2.frozen? ⟨w.heap.size, 3, none⟩ = false := (hb2.frozen (p := ⟨w.heap.size, 3, none⟩) (by first | omega | (simp; done) | (simp; omega))).trans z3w1
  have r4w2 : w2.cell? ⟨w.heap.size, 4, none⟩ = some (.int .i64 0) := (hb2.cell (p := ⟨w.heap.size, 4, none⟩) (by first | omega | (simp; done) | (simp; omega))).trans r4w1
  have z4w2 : w2.frozen? ⟨w.heap.size, 4, none⟩ = false := (hb2.frozen (p := ⟨w.heap.size, 4, none⟩) (by first | omega | (simp; done) | (simp; omega))).trans z4w1
  clear hb2
  go_wp2_with fail
  refine (HQ.out _).mono ?_
  rintro e w3 ⟨rfl, hb3⟩
  have hs3 := hb3.size
  simp at hs3
  have hB3 : Below w.heap.size w w3 := (by repeat (first | exact Below.refl _ _ | assumption | refine Below.drew ?_ | refine below_drewN ?_ _ | refine Below.alloc ?_ (by first | omega | (simp; done) | (simp; omega)) _ | refine Below.setCell ?_ (by first | omega | (simp; done) | (simp; omega)) _ | refine Below.trans ?_ (Below.mono (by assumption) (by first | omega | (simp; done) | (simp; omega)))))
  have cl2 : w3.cell? ⟨g, 2, none⟩ = some (.string (bs t)) := (hb3.cell (p := ⟨g, 2, none⟩) (by first | omega | (simp; done) | (simp; omega))).trans ((World.cell?_alloc_past _ _ _ (by first | omega | (simp; done) | (simp; omega))).trans cl2)
  have b50 : w3.cell? ⟨w2.heap.size, 0, none⟩ = some (.int .i64 X1) := (hb3.cell (p := ⟨w2.heap.size, 0, none⟩) (by first | omega | (simp; done) | (simp; omega))).trans (by go_simp)
  have b51 : w3.cell? ⟨w2.heap.size, 1, none⟩ = some (.int .i64 Y1) := (hb3.cell (p := ⟨w2.heap.size, 1, none⟩) (by first | omega | (simp; done) | (simp; omega))).trans (by go_simp)
  have r0w3 : w3.cell? ⟨w.heap.size, 0, none⟩ = some (.int .i64 0) := (hb3.cell (p := ⟨w.heap.size, 0, none⟩) (by first | omega | (simp; done) | (simp; omega))).trans ((World.cell?_alloc_past _ _ _ (by first | omega | (simp; done) | (simp; omega))).trans r0w2)
  have z0w3 : w3.frozen? ⟨w.heap.size, 0, none⟩ = false := (hb3.frozen (p := ⟨w.heap.size, 0, none⟩) (by first | omega | (simp; done) | (simp; omega))).trans (by have := z0w2; go_simp)
  have r1w3 : w3.cell? ⟨w.heap.size, 1, none⟩ = some (.int .i64 0) := (hb3.cell (p := ⟨w.heap.size, 1, none⟩) (by first | omega | (simp; done) | (simp; omega))).trans ((World.cell?_alloc_past _ _ _ (by first | omega | (simp; done) | (simp; omega))).trans r1w2)
  have z1w3 : w3.frozen? ⟨w.heap.size, 1, none⟩ = false := (hb3.frozen (p := ⟨w.heap.size, 1, none⟩) (by first | omega | (simp; done) | (simp; omega))).trans (by have := z1w2; go_simp)
  have r2w3 : w3.cell? ⟨w.heap.size, 2, none⟩ = some (.int .i64 0) := (hb3.cell (p := ⟨w.heap.size, 2, none⟩) (by first | omega | (simp; done) | (simp; omega))).trans ((World.cell?_alloc_past _ _ _ (by first | omega | (simp; done) | (simp; omega))).trans r2w2)
  have z2w3 : w3.frozen? ⟨w.heap.size, 2, none⟩ = false := (hb3.frozen (p := ⟨w.heap.size, 2, none⟩) (by first | omega | (simp; done) | (simp; omega))).trans (by have := z2w2; go_simp)
  have r3w3 : w3.cell? ⟨w.heap.size, 3, none⟩ = some (.int .i64 0) := (hb3.cell (p := ⟨w.heap.size, 3, none⟩) (by first | omega | (simp; done) | (simp; omega))).trans ((World.cell?_alloc_past _ _ _ (by first | omega | (simp; done) | (simp; omega))).trans r3w2)
  have z3w3 : w3.frozen? ⟨w.heap.size, 3, none⟩ = false := (hb3.frozen (p := ⟨w.heap.size, 3, none⟩) (by first | omega | (simp; done) | (simp; omega))).trans (by have := z3w2; go_simp)
  have r4w3 : w3.cell? ⟨w.heap.size, 4, none⟩ = some (.int .i64 0) := (hb3.cell (p := ⟨w.heap.size, 4, none⟩) (by first | omega | (simp; done) | (simp; omega))).trans ((World.cell?_alloc_past _ _ _ (by first | omega | (simp; done) | (simp; omega))).trans r4w2)
  have z4w3 : w3.frozen? ⟨w.heap.size, 4, none⟩ = false := (hb3.frozen (p := ⟨w.heap.size, 4, none⟩) (by first | omega | (simp; done) | (simp; omega))).trans (by have := z4w2; go_simp)
  clear hb3 cl0 cl1
  go_upto_region 6 with fail
  obtain ⟨W3, hW3⟩ : ∃ W3, W3 = w3.alloc (.cells #[.int .i64 X2, .int .i64 Y2] 27) := ⟨_, rfl⟩
  have hW3b : Below w3.heap.size w3 W3 := by rw [hW3]; exact (Below.refl _ _).alloc (Nat.le_refl _) _
  have hW3s : W3.heap.size = w3.heap.size + 1 := by rw [hW3]; simp
  have d70 : W3.cell? ⟨w3.heap.size, 0, none⟩ = some (.int .i64 X2) := by rw [hW3]; go_simp
  have d71 : W3.cell? ⟨w3.heap.size, 1, none⟩ = some (.int .i64 Y2) := by rw [hW3]; go_simp
  rw [← hW3]
  clear hW3
  have d50 := (hW3b.cell (p := ⟨w2.heap.size, 0, none⟩) (by first | omega | (simp; done) | (simp; omega))).trans b50
  have d51 := (hW3b.cell (p := ⟨w2.heap.size, 1, none⟩) (by first | omega | (simp; done) | (simp; omega))).trans b51
  have d2 := (hW3b.cell (p := ⟨g, 2, none⟩) (by first | omega | (simp; done) | (simp; omega))).trans cl2
  have r0W3 : W3.cell? ⟨w.heap.size, 0, none⟩ = some (.int .i64 0) := (hW3b.cell (p := ⟨w.heap.size, 0, none⟩) (by first | omega | (simp; done) | (simp; omega))).trans r0w3
  have z0W3 : W3.frozen? ⟨w.heap.size, 0, none⟩ = false := (hW3b.frozen (p := ⟨w.heap.size, 0, none⟩) (by first | omega | (simp; done) | (simp; omega))).trans z0w3
  have r1W3 : W3.cell? ⟨w.heap.size, 1, none⟩ = some (.int .i64 0) := (hW3b.cell (p := ⟨w.heap.size, 1, none⟩) (by first | omega | (simp; done) | (simp; omega))).trans r1w3
  have z1W3 : W3.frozen? ⟨w.heap.size, 1, none⟩ = false := (hW3b.frozen (p := ⟨w.heap.size, 1, none⟩) (by first | omega | (simp; done) | (simp; omega))).trans z1w3
  have r2W3 : W3.cell? ⟨w.heap.size, 2, none⟩ = some (.int .i64 0) := (hW3b.cell (p := ⟨w.heap.size, 2, none⟩) (by first | omega | (simp; done) | (simp; omega))).trans r2w3
  have z2W3 : W3.frozen? ⟨w.heap.size, 2, none⟩ = false := (hW3b.frozen (p := ⟨w.heap.size, 2, none⟩) (by first | omega | (simp; done) | (simp; omega))).trans z2w3
  have r3W3 : W3.cell? ⟨w.heap.size, 3, none⟩ = some (.int .i64 0) := (hW3b.cell (p := ⟨w.heap.size, 3, none⟩) (by first | omega | (simp; done) | (simp; omega))).trans r3w3
  have z3W3 : W3.frozen? ⟨w.heap.size, 3, none⟩ = false := (hW3b.frozen (p := ⟨w.heap.size, 3, none⟩) (by first | omega | (simp; done) | (simp; omega))).trans z3w3
  have r4W3 : W3.cell? ⟨w.heap.size, 4, none⟩ = some (.int .i64 0) := (hW3b.cell (p := ⟨w.heap.size, 4, none⟩) (by first | omega | (simp; done) | (simp; omega))).trans r4w3
  have z4W3 : W3.frozen? ⟨w.heap.size, 4, none⟩ = false := (hW3b.frozen (p := ⟨w.heap.size, 4, none⟩) (by first | omega | (simp; done) | (simp; omega))).trans z4w3
  have hB4 : Below w.heap.size w W3 := hB3.trans (hW3b.mono (by omega))
  have hgW : g < W3.heap.size := by omega
  have h5W : w2.heap.size < W3.heap.size := by omega
  have h7W : w3.heap.size < W3.heap.size := by omega
  have hl1 : ∀ b, b < W3.heap.size → b < W3.heap.size := fun _ h => h
  clear b50 b51 cl2 hB1 hB2 hB3 hW3b
  go_cut [9] (fun s9 wx => ∃ k : Nat, s9 = .pointer (some ⟨k, 0, none⟩) ∧ W3.heap.size ≤ k ∧ k < wx.heap.size ∧ wx.cell? ⟨k, 0, none⟩ = some (.int .i64 X1) ∧ wx.cell? ⟨k, 1, none⟩ = some (.int .i64 Y1) ∧ wx.cell? ⟨k, 2, none⟩ = some (.int .i64 X2) ∧ wx.cell? ⟨k, 3, none⟩ = some (.int .i64 Y2) ∧ wx.cell? ⟨k, 4, none⟩ = some (.int .i64 N) ∧ Below W3.heap.size W3 wx)
  case first =>
    go_region_held3 (fun w' => w'.cell? ⟨w2.heap.size, 0, none⟩ = some (.int .i64 X1) ∧ w'.cell? ⟨w2.heap.size, 1, none⟩ = some (.int .i64 Y1) ∧ w'.cell? ⟨w3.heap.size, 0, none⟩ = some (.int .i64 X2) ∧ w'.cell? ⟨w3.heap.size, 1, none⟩ = some (.int .i64 Y2) ∧ w'.cell? ⟨g, 2, none⟩ = some (.string (bs t))) ((first | (rename_i hH K0 hK0; obtain ⟨e0, e1, e2, e3, e4⟩ := hH; first | (with_reducible exact ⟨e0, e1, e2, e3, e4⟩) | (with_reducible exact ⟨(hb1.cell (p := ⟨w2.heap.size, 0, none⟩) (by first | omega | (simp; done) | (simp; omega))).trans e0, (hb1.cell (p := ⟨w2.heap.size, 1, none⟩) (by first | omega | (simp; done) | (simp; omega))).trans e1, (hb1.cell (p := ⟨w3.heap.size, 0, none⟩) (by first | omega | (simp; done) | (simp; omega))).trans e2, (hb1.cell (p := ⟨w3.heap.size, 1, none⟩) (by first | omega | (simp; done) | (simp; omega))).trans e3, (hb1.cell (p := ⟨g, 2, none⟩) (by first | omega | (simp; done) | (simp; omega))).trans e4⟩) | (with_reducible exact ⟨(World.cell?_alloc_past _ _ _ (by first | omega | (simp; omega))).trans e0, (World.cell?_alloc_past _ _ _ (by first | omega | (simp; omega))).trans e1, (World.cell?_alloc_past _ _ _ (by first | omega | (simp; omega))).trans e2, (World.cell?_alloc_past _ _ _ (by first | omega | (simp; omega))).trans e3, (World.cell?_alloc_past _ _ _ (by first | omega | (simp; omega))).trans e4⟩) | (with_reducible exact ⟨(World.cell?_alloc_past _ _ _ (by first | omega | (simp; omega))).trans ((World.cell?_alloc_past (.cells #[.int .i64 0, .int .i64 0, .int .i64 0, .int .i64 0, .int .i64 0] 29) _ _ (by first | omega | (simp; omega))).symm.trans e0), (World.cell?_alloc_past _ _ _ (by first | omega | (simp; omega))).trans ((World.cell?_alloc_past (.cells #[.int .i64 0, .int .i64 0, .int .i64 0, .int .i64 0, .int .i64 0] 29) _ _ (by first | omega | (simp; omega))).symm.trans e1), (World.cell?_alloc_past _ _ _ (by first | omega | (simp; omega))).trans ((World.cell?_alloc_past (.cells #[.int .i64 0, .int .i64 0, .int .i64 0, .int .i64 0, .int .i64 0] 29) _ _ (by first | omega | (simp; omega))).symm.trans e2), (World.cell?_alloc_past _ _ _ (by first | omega | (simp; omega))).trans ((World.cell?_alloc_past (.cells #[.int .i64 0, .int .i64 0, .int .i64 0, .int .i64 0, .int .i64 0] 29) _ _ (by first | omega | (simp; omega))).symm.trans e3), (World.cell?_alloc_past _ _ _ (by first | omega | (simp; omega))).trans ((World.cell?_alloc_past (.cells #[.int .i64 0, .int .i64 0, .int .i64 0, .int .i64 0, .int .i64 0] 29) _ _ (by first | omega | (simp; omega))).symm.trans e4)⟩) | (with_reducible exact ⟨(World.cell?_setCell_far _ _ _ _ (by intro e; dsimp only at e; omega)).trans ((World.cell?_setCell_far _ _ _ _ (by intro e; dsimp only at e; omega)).trans ((World.cell?_setCell_far _ _ _ _ (by intro e; dsimp only at e; omega)).trans ((World.cell?_setCell_far _ _ _ _ (by intro e; dsimp only at e; omega)).trans ((World.cell?_setCell_far _ _ _ _ (by intro e; dsimp only at e; omega)).trans (e0))))), (World.cell?_setCell_far _ _ _ _ (by intro e; dsimp only at e; omega)).trans ((World.cell?_setCell_far _ _ _ _ (by intro e; dsimp only at e; omega)).trans ((World.cell?_setCell_far _ _ _ _ (by intro e; dsimp only at e; omega)).trans ((World.cell?_setCell_far _ _ _ _ (by intro e; dsimp only at e; omega)).trans ((World.cell?_setCell_far _ _ _ _ (by intro e; dsimp only at e; omega)).trans (e1))))), (World.cell?_setCell_far _ _ _ _ (by intro e; dsimp only at e; omega)).trans ((World.cell?_setCell_far _ _ _ _ (by intro e; dsimp only at e; omega)).trans ((World.cell?_setCell_far _ _ _ _ (by intro e; dsimp only at e; omega)).trans ((World.cell?_setCell_far _ _ _ _ (by intro e; dsimp only at e; omega)).trans ((World.cell?_setCell_far _ _ _ _ (by intro e; dsimp only at e; omega)).trans (e2))))), (World.cell?_setCell_far _ _ _ _ (by intro e; dsimp only at e; omega)).trans ((World.cell?_setCell_far _ _ _ _ (by intro e; dsimp only at e; omega)).trans ((World.cell?_setCell_far _ _ _ _ (by intro e; dsimp only at e; omega)).trans ((World.cell?_setCell_far _ _ _ _ (by intro e; dsimp only at e; omega)).trans ((World.cell?_setCell_far _ _ _ _ (by intro e; dsimp only at e; omega)).trans (e3))))), (World.cell?_setCell_far _ _ _ _ (by intro e; dsimp only at e; omega)).trans ((World.cell?_setCell_far _ _ _ _ (by intro e; dsimp only at e; omega)).trans ((World.cell?_setCell_far _ _ _ _ (by intro e; dsimp only at e; omega)).trans ((World.cell?_setCell_far _ _ _ _ (by intro e; dsimp only at e; omega)).trans ((World.cell?_setCell_far _ _ _ _ (by intro e; dsimp only at e; omega)).trans (e4)))))⟩)) | (refine ⟨?_, ?_, ?_, ?_, ?_⟩ <;> first | (go_keep; done) | (simp [*, World.cell?_alloc_past, World.cell?_setCell_far]; done) | (simp [*, World.cell?_alloc_past, World.cell?_alloc_at, World.cell?_setCell_far]; done) | (go_simp; done))))
      (first | (go_at_call 53; ((with_reducible refine (HR.out _).mono ?_); rintro e w1 ⟨rfl, hb1⟩; have hs1 := hb1.size; (try simp at hs1); (first | have hk4 := call_facts hl3 hb1 (by simp) | skip); (first | have hk3 := call_facts hl2 hb1 (by simp) | skip); (first | have hk2 := call_facts hl1 hb1 (by simp) | skip); have hk1 := call_facts (fun b h => h) hb1 (Nat.le_refl _); (first | have hl4 := hk4.1 | skip); (first | have hl3 := hk3.1 | skip); (first | have hl2 := hk2.1 | skip); have hl1 := hk1.1)))
    all_goals
      go_wp2_with fail
      go_meet
      refine ⟨_, rfl, ?_, ?_, ?_, ?_, ?_, ?_, ?_, (by repeat (first | exact Below.refl _ _ | assumption | refine Below.drew ?_ | refine below_drewN ?_ _ | refine Below.alloc ?_ (by first | omega | (simp; done) | (simp; omega)) _ | refine Below.setCell ?_ (by first | omega | (simp; done) | (simp; omega)) _ | refine Below.trans ?_ (Below.mono (by assumption) (by first | omega | (simp; done) | (simp; omega)))))⟩
      all_goals first | (omega; done) | (simp; done) | (simp; omega) | (go_simp; done) | (simp [*, World.cell?_alloc_past, World.cell?_alloc_at]; done)
  case rest =>
    obtain ⟨k, rfl, hk, hkl, k0, k1, k2, k3, k4, hbw⟩ := hcut
    have hws := hbw.size
    have hkn : ¬ k = w.heap.size := by omega
    have hkn2 : ¬ w.heap.size = k := by omega
    have hwl : w.heap.size < wc.heap.size := by omega
    have r0wc : wc.cell? ⟨w.heap.size, 0, none⟩ = some (.int .i64 0) := (hbw.cell (p := ⟨w.heap.size, 0, none⟩) (by first | omega | (simp; done) | (simp; omega))).trans r0W3
    have z0wc : wc.frozen? ⟨w.heap.size, 0, none⟩ = false := (hbw.frozen (p := ⟨w.heap.size, 0, none⟩) (by first | omega | (simp; done) | (simp; omega))).trans z0W3
    have r1wc : wc.cell? ⟨w.heap.size, 1, none⟩ = some (.int .i64 0) := (hbw.cell (p := ⟨w.heap.size, 1, none⟩) (by first | omega | (simp; done) | (simp; omega))).trans r1W3
    have z1wc : wc.frozen? ⟨w.heap.size, 1, none⟩ = false := (hbw.frozen (p := ⟨w.heap.size, 1, none⟩) (by first | omega | (simp; done) | (simp; omega))).trans z1W3
    have r2wc : wc.cell? ⟨w.heap.size, 2, none⟩ = some (.int .i64 0) := (hbw.cell (p := ⟨w.heap.size, 2, none⟩) (by first | omega | (simp; done) | (simp; omega))).trans r2W3
    have z2wc : wc.frozen? ⟨w.heap.size, 2, none⟩ = false := (hbw.frozen (p := ⟨w.heap.size, 2, none⟩) (by first | omega | (simp; done) | (simp; omega))).trans z2W3
    have r3wc : wc.cell? ⟨w.heap.size, 3, none⟩ = some (.int .i64 0) := (hbw.cell (p := ⟨w.heap.size, 3, none⟩) (by first | omega | (simp; done) | (simp; omega))).trans r3W3
    have z3wc : wc.frozen? ⟨w.heap.size, 3, none⟩ = false := (hbw.frozen (p := ⟨w.heap.size, 3, none⟩) (by first | omega | (simp; done) | (simp; omega))).trans z3W3
    have r4wc : wc.cell? ⟨w.heap.size, 4, none⟩ = some (.int .i64 0) := (hbw.cell (p := ⟨w.heap.size, 4, none⟩) (by first | omega | (simp; done) | (simp; omega))).trans r4W3
    have z4wc : wc.frozen? ⟨w.heap.size, 4, none⟩ = false := (hbw.frozen (p := ⟨w.heap.size, 4, none⟩) (by first | omega | (simp; done) | (simp; omega))).trans z4W3
    have hB5 : Below w.heap.size w wc := hB4.trans (hbw.mono (by omega))
    clear hbw r0W3 z0W3 r1W3 z1W3 r2W3 z2W3 r3W3 z3W3 r4W3 z4W3 hB4
    go_wp2_with fail
    first | exact bodyPost_ret (v := .tuple #[.agg #[.int .i64 0, .int .i64 0, .int .i64 0, .int .i64 0, .int .i64 0], .bool false]) (by simp [results, Try.results34, go_sem, *]) rfl ⟨rfl, (by repeat (first | with_reducible exact Below.refl _ _ | with_reducible assumption | with_reducible refine Below.drew ?_ | with_reducible refine below_drewN ?_ _ | with_reducible refine Below.alloc ?_ (by first | omega | (simp; done) | (simp; omega)) _ | with_reducible refine Below.setCell ?_ (by first | omega | (simp; done) | (simp; omega)) _ | with_reducible refine Below.trans ?_ (Below.mono (by assumption) (by first | omega | (simp; done) | (simp; omega)))))⟩

set_option maxHeartbeats 4000000 in
theorem specPM_m (l : List UInt8) {p q t : List UInt8} (hl : l.length ≤ 1048576) (h : splitL 32 l = [p, q, t]) (hlq : l = p ++ 32 :: (q ++ 32 :: t)) (h1 : okS p = true) (h2 : okS q = true) (h3 : isMv (spX p) (spY p) (spX q) (spY q) (readL t) = false) (w : World) :
    Calls Try.prog 34 #[.string (bs l)] w fun e w' => e = .returned (.tuple #[.agg #[.int .i64 0, .int .i64 0, .int .i64 0, .int .i64 0, .int .i64 0], .bool false]) ∧ Below w.heap.size w w' := by
  have HS := Lib.hid (l1Split_form l 32 32 rfl hl h rfl)
  simp only [List.length_cons, List.length_nil] at HS
  have hll : p.length ≤ 1048576 ∧ q.length ≤ 1048576 ∧ t.length ≤ 1048576 := by
    have := congrArg List.length hlq
    simp at this
    omega
  have HP := Lib.hid (fun W => stParse_any p hll.1 W)
  have HQ := Lib.hid (fun W => stParse_any q hll.2.1 W)
  have HR := Lib.hid (fun W => l1Read_any t W)
  unfold ansS at HP HQ
  rw [h1] at HP
  rw [h2] at HQ
  have HG := Lib.hid (fun W => mvGood_any (spX p) (spY p) (spX q) (spY q) (readL t) W)
  rw [h3] at HG
  clear h1 h2 h3
  clear hlq hll h hl
  obtain ⟨X1, hX1⟩ : ∃ z, z = spX p := ⟨_, rfl⟩
  obtain ⟨Y1, hY1⟩ : ∃ z, z = spY p := ⟨_, rfl⟩
  obtain ⟨X2, hX2⟩ : ∃ z, z = spX q := ⟨_, rfl⟩
  obtain ⟨Y2, hY2⟩ : ∃ z, z = spY q := ⟨_, rfl⟩
  obtain ⟨N, hN⟩ : ∃ z, z = readL t := ⟨_, rfl⟩
  rw [← hX1, ← hY1] at HP
  rw [← hX2, ← hY2] at HQ
  rw [← hN] at HR
  rw [← hX1, ← hY1, ← hX2, ← hY2, ← hN] at HG
  clear hX1 hY1 hX2 hY2 hN
  obtain ⟨q1, q2, q3, q4, q5, q6, q7⟩ := nadd
  go_enter Try.func34, Try.ntmps34
  go_wp2_with fail
  refine (HS.out _).mono ?_
  rintro e w1 ⟨g, cap, rfl, hg, hgl, hcell, hb1⟩
  have cl0 := hcell 0 (by simp)
  have cl1 := hcell 1 (by simp)
  have cl2 := hcell 2 (by simp)
  clear hcell
  simp only [List.getElem_cons_zero, List.getElem_cons_succ] at cl0 cl1 cl2
  have hgw : w.heap.size < g := by simp at hg; omega
  have hs1 : w.heap.size < w1.heap.size := by omega
  have hB1 : Below w.heap.size w w1 := (by repeat (first | exact Below.refl _ _ | assumption | refine Below.drew ?_ | refine below_drewN ?_ _ | refine Below.alloc ?_ (by first | omega | (simp; done) | (simp; omega)) _ | refine Below.setCell ?_ (by first | omega | (simp; done) | (simp; omega)) _ | refine Below.trans ?_ (Below.mono (by assumption) (by first | omega | (simp; done) | (simp; omega)))))
  have r0w1 : w1.cell? ⟨w.heap.size, 0, none⟩ = some (.int .i64 0) := (hb1.cell (p := ⟨w.heap.size, 0, none⟩) (by first | omega | (simp; done) | (simp; omega))).trans (by go_simp)
  have z0w1 : w1.frozen? ⟨w.heap.size, 0, none⟩ = false := (hb1.frozen (p := ⟨w.heap.size, 0, none⟩) (by first | omega | (simp; done) | (simp; omega))).trans (by go_simp)
  have r1w1 : w1.cell? ⟨w.heap.size, 1, none⟩ = some (.int .i64 0) := (hb1.cell (p := ⟨w.heap.size, 1, none⟩) (by first | omega | (simp; done) | (simp; omega))).trans (by go_simp)
  have z1w1 : w1.frozen? ⟨w.heap.size, 1, none⟩ = false := (hb1.frozen (p := ⟨w.heap.size, 1, none⟩) (by first | omega | (simp; done) | (simp; omega))).trans (by go_simp)
  have r2w1 : w1.cell? ⟨w.heap.size, 2, none⟩ = some (.int .i64 0) := (hb1.cell (p := ⟨w.heap.size, 2, none⟩) (by first | omega | (simp; done) | (simp; omega))).trans (by go_simp)
  have z2w1 : w1.frozen? ⟨w.heap.size, 2, none⟩ = false := (hb1.frozen (p := ⟨w.heap.size, 2, none⟩) (by first | omega | (simp; done) | (simp; omega))).trans (by go_simp)
  have r3w1 : w1.cell? ⟨w.heap.size, 3, none⟩ = some (.int .i64 0) := (hb1.cell (p := ⟨w.heap.size, 3, none⟩) (by first | omega | (simp; done) | (simp; omega))).trans (by go_simp)
  have z3w1 : w1.frozen? ⟨w.heap.size, 3, none⟩ = false := (hb1.frozen (p := ⟨w.heap.size, 3, none⟩) (by first | omega | (simp; done) | (simp; omega))).trans (by go_simp)
  have r4w1 : w1.cell? ⟨w.heap.size, 4, none⟩ = some (.int .i64 0) := (hb1.cell (p := ⟨w.heap.size, 4, none⟩) (by first | omega | (simp; done) | (simp; omega))).trans (by go_simp)
  have z4w1 : w1.frozen? ⟨w.heap.size, 4, none⟩ = false := (hb1.frozen (p := ⟨w.heap.size, 4, none⟩) (by first | omega | (simp; done) | (simp; omega))).trans (by go_simp)
  clear hb1 hg
  go_wp2_with fail
  refine (HP.out _).mono ?_
  rintro e w2 ⟨rfl, hb2⟩
  have hs2 := hb2.size
  have hB2 : Below w.heap.size w w2 := hB1.trans (hb2.mono (by omega))
  have cl1 := (hb2.cell (p := ⟨g, 1, none⟩) hgl).trans cl1
  have cl2 := (hb2.cell (p := ⟨g, 2, none⟩) hgl).trans cl2
  have hgl2 : g < w2.heap.size := by omega
  have hw2 : w.heap.size < w2.heap.size := by omega
  have r0w2 : w2.cell? ⟨w.heap.size, 0, none⟩ = some (.int .i64 0) := (hb2.cell (p := ⟨w.heap.size, 0, none⟩) (by first | omega | (simp; done) | (simp; omega))).trans r0w1
  have z0w2 : w2.frozen? ⟨w.heap.size, 0, none⟩ = false := (hb2.frozen (p := ⟨w.heap.size, 0, none⟩) (by first | omega | (simp; done) | (simp; omega))).trans z0w1
  have r1w2 : w2.cell? ⟨w.heap.size, 1, none⟩ = some (.int .i64 0) := (hb2.cell (p := ⟨w.heap.size, 1, none⟩) (by first | omega | (simp; done) | (simp; omega))).trans r1w1
  have z1w2 : w2.frozen? ⟨w.heap.size, 1, none⟩ = false := (hb2.frozen (p := ⟨w.heap.size, 1, none⟩) (by first | omega | (simp; done) | (simp; omega))).trans z1w1
  have r2w2 : w2.cell? ⟨w.heap.size, 2, none⟩ = some (.int .i64 0) := (hb2.cell (p := ⟨w.heap.size, 2, none⟩) (by first | omega | (simp; done) | (simp; omega))).trans r2w1
  have z2w2 : w2.frozen? ⟨w.heap.size, 2, none⟩ = false := (hb2.frozen (p := ⟨w.heap.size, 2, none⟩) (by first | omega | (simp; done) | (simp; omega))).trans z2w1
  have r3w2 : w2.cell? ⟨w.heap.size, 3, none⟩ = some (.int .i64 0) := (hb2.cell (p := ⟨w.heap.size, 3, none⟩) (by first | omega | (simp; done) | (simp; omega))).trans r3w1
  have z3w2 : w2.frozen? ⟨w.heap.size, 3, none⟩ = false := (hb2.frozen (p := ⟨w.heap.size, 3, none⟩) (by first | omega | (simp; done) | (simp; omega))).trans z3w1
  have r4w2 : w2.cell? ⟨w.heap.size, 4, none⟩ = some (.int .i64 0) := (hb2.cell (p := ⟨w.heap.size, 4, none⟩) (by first | omega | (simp; done) | (simp; omega))).trans r4w1
  have z4w2 : w2.frozen? ⟨w.heap.size, 4, none⟩ = false := (hb2.frozen (p := ⟨w.heap.size, 4, none⟩) (by first | omega | (simp; done) | (simp; omega))).trans z4w1
  clear hb2
  go_wp2_with fail
  refine (HQ.out _).mono ?_
  rintro e w3 ⟨rfl, hb3⟩
  have hs3 := hb3.size
  simp at hs3
  have hB3 : Below w.heap.size w w3 := (by repeat (first | exact Below.refl _ _ | assumption | refine Below.drew ?_ | refine below_drewN ?_ _ | refine Below.alloc ?_ (by first | omega | (simp; done) | (simp; omega)) _ | refine Below.setCell ?_ (by first | omega | (simp; done) | (simp; omega)) _ | refine Below.trans ?_ (Below.mono (by assumption) (by first | omega | (simp; done) | (simp; omega)))))
  have cl2 : w3.cell? ⟨g, 2, none⟩ = some (.string (bs t)) := (hb3.cell (p := ⟨g, 2, none⟩) (by first | omega | (simp; done) | (simp; omega))).trans ((World.cell?_alloc_past _ _ _ (by first | omega | (simp; done) | (simp; omega))).trans cl2)
  have b50 : w3.cell? ⟨w2.heap.size, 0, none⟩ = some (.int .i64 X1) := (hb3.cell (p := ⟨w2.heap.size, 0, none⟩) (by first | omega | (simp; done) | (simp; omega))).trans (by go_simp)
  have b51 : w3.cell? ⟨w2.heap.size, 1, none⟩ = some (.int .i64 Y1) := (hb3.cell (p := ⟨w2.heap.size, 1, none⟩) (by first | omega | (simp; done) | (simp; omega))).trans (by go_simp)
  have r0w3 : w3.cell? ⟨w.heap.size, 0, none⟩ = some (.int .i64 0) := (hb3.cell (p := ⟨w.heap.size, 0, none⟩) (by first | omega | (simp; done) | (simp; omega))).trans ((World.cell?_alloc_past _ _ _ (by first | omega | (simp; done) | (simp; omega))).trans r0w2)
  have z0w3 : w3.frozen? ⟨w.heap.size, 0, none⟩ = false := (hb3.frozen (p := ⟨w.heap.size, 0, none⟩) (by first | omega | (simp; done) | (simp; omega))).trans (by have := z0w2; go_simp)
  have r1w3 : w3.cell? ⟨w.heap.size, 1, none⟩ = some (.int .i64 0) := (hb3.cell (p := ⟨w.heap.size, 1, none⟩) (by first | omega | (simp; done) | (simp; omega))).trans ((World.cell?_alloc_past _ _ _ (by first | omega | (simp; done) | (simp; omega))).trans r1w2)
  have z1w3 : w3.frozen? ⟨w.heap.size, 1, none⟩ = false := (hb3.frozen (p := ⟨w.heap.size, 1, none⟩) (by first | omega | (simp; done) | (simp; omega))).trans (by have := z1w2; go_simp)
  have r2w3 : w3.cell? ⟨w.heap.size, 2, none⟩ = some (.int .i64 0) := (hb3.cell (p := ⟨w.heap.size, 2, none⟩) (by first | omega | (simp; done) | (simp; omega))).trans ((World.cell?_alloc_past _ _ _ (by first | omega | (simp; done) | (simp; omega))).trans r2w2)
  have z2w3 : w3.frozen? ⟨w.heap.size, 2, none⟩ = false := (hb3.frozen (p := ⟨w.heap.size, 2, none⟩) (by first | omega | (simp; done) | (simp; omega))).trans (by have := z2w2; go_simp)
  have r3w3 : w3.cell? ⟨w.heap.size, 3, none⟩ = some (.int .i64 0) := (hb3.cell (p := ⟨w.heap.size, 3, none⟩) (by first | omega | (simp; done) | (simp; omega))).trans ((World.cell?_alloc_past _ _ _ (by first | omega | (simp; done) | (simp; omega))).trans r3w2)
  have z3w3 : w3.frozen? ⟨w.heap.size, 3, none⟩ = false := (hb3.frozen (p := ⟨w.heap.size, 3, none⟩) (by first | omega | (simp; done) | (simp; omega))).trans (by have := z3w2; go_simp)
  have r4w3 : w3.cell? ⟨w.heap.size, 4, none⟩ = some (.int .i64 0) := (hb3.cell (p := ⟨w.heap.size, 4, none⟩) (by first | omega | (simp; done) | (simp; omega))).trans ((World.cell?_alloc_past _ _ _ (by first | omega | (simp; done) | (simp; omega))).trans r4w2)
  have z4w3 : w3.frozen? ⟨w.heap.size, 4, none⟩ = false := (hb3.frozen (p := ⟨w.heap.size, 4, none⟩) (by first | omega | (simp; done) | (simp; omega))).trans (by have := z4w2; go_simp)
  clear hb3 cl0 cl1
  go_upto_region 6 with fail
  obtain ⟨W3, hW3⟩ : ∃ W3, W3 = w3.alloc (.cells #[.int .i64 X2, .int .i64 Y2] 27) := ⟨_, rfl⟩
  have hW3b : Below w3.heap.size w3 W3 := by rw [hW3]; exact (Below.refl _ _).alloc (Nat.le_refl _) _
  have hW3s : W3.heap.size = w3.heap.size + 1 := by rw [hW3]; simp
  have d70 : W3.cell? ⟨w3.heap.size, 0, none⟩ = some (.int .i64 X2) := by rw [hW3]; go_simp
  have d71 : W3.cell? ⟨w3.heap.size, 1, none⟩ = some (.int .i64 Y2) := by rw [hW3]; go_simp
  rw [← hW3]
  clear hW3
  have d50 := (hW3b.cell (p := ⟨w2.heap.size, 0, none⟩) (by first | omega | (simp; done) | (simp; omega))).trans b50
  have d51 := (hW3b.cell (p := ⟨w2.heap.size, 1, none⟩) (by first | omega | (simp; done) | (simp; omega))).trans b51
  have d2 := (hW3b.cell (p := ⟨g, 2, none⟩) (by first | omega | (simp; done) | (simp; omega))).trans cl2
  have r0W3 : W3.cell? ⟨w.heap.size, 0, none⟩ = some (.int .i64 0) := (hW3b.cell (p := ⟨w.heap.size, 0, none⟩) (by first | omega | (simp; done) | (simp; omega))).trans r0w3
  have z0W3 : W3.frozen? ⟨w.heap.size, 0, none⟩ = false := (hW3b.frozen (p := ⟨w.heap.size, 0, none⟩) (by first | omega | (simp; done) | (simp; omega))).trans z0w3
  have r1W3 : W3.cell? ⟨w.heap.size, 1, none⟩ = some (.int .i64 0) := (hW3b.cell (p := ⟨w.heap.size, 1, none⟩) (by first | omega | (simp; done) | (simp; omega))).trans r1w3
  have z1W3 : W3.frozen? ⟨w.heap.size, 1, none⟩ = false := (hW3b.frozen (p := ⟨w.heap.size, 1, none⟩) (by first | omega | (simp; done) | (simp; omega))).trans z1w3
  have r2W3 : W3.cell? ⟨w.heap.size, 2, none⟩ = some (.int .i64 0) := (hW3b.cell (p := ⟨w.heap.size, 2, none⟩) (by first | omega | (simp; done) | (simp; omega))).trans r2w3
  have z2W3 : W3.frozen? ⟨w.heap.size, 2, none⟩ = false := (hW3b.frozen (p := ⟨w.heap.size, 2, none⟩) (by first | omega | (simp; done) | (simp; omega))).trans z2w3
  have r3W3 : W3.cell? ⟨w.heap.size, 3, none⟩ = some (.int .i64 0) := (hW3b.cell (p := ⟨w.heap.size, 3, none⟩) (by first | omega | (simp; done) | (simp; omega))).trans r3w3
  have z3W3 : W3.frozen? ⟨w.heap.size, 3, none⟩ = false := (hW3b.frozen (p := ⟨w.heap.size, 3, none⟩) (by first | omega | (simp; done) | (simp; omega))).trans z3w3
  have r4W3 : W3.cell? ⟨w.heap.size, 4, none⟩ = some (.int .i64 0) := (hW3b.cell (p := ⟨w.heap.size, 4, none⟩) (by first | omega | (simp; done) | (simp; omega))).trans r4w3
  have z4W3 : W3.frozen? ⟨w.heap.size, 4, none⟩ = false := (hW3b.frozen (p := ⟨w.heap.size, 4, none⟩) (by first | omega | (simp; done) | (simp; omega))).trans z4w3
  have hB4 : Below w.heap.size w W3 := hB3.trans (hW3b.mono (by omega))
  have hgW : g < W3.heap.size := by omega
  have h5W : w2.heap.size < W3.heap.size := by omega
  have h7W : w3.heap.size < W3.heap.size := by omega
  have hl1 : ∀ b, b < W3.heap.size → b < W3.heap.size := fun _ h => h
  clear b50 b51 cl2 hB1 hB2 hB3 hW3b
  go_cut [9] (fun s9 wx => ∃ k : Nat, s9 = .pointer (some ⟨k, 0, none⟩) ∧ W3.heap.size ≤ k ∧ k < wx.heap.size ∧ wx.cell? ⟨k, 0, none⟩ = some (.int .i64 X1) ∧ wx.cell? ⟨k, 1, none⟩ = some (.int .i64 Y1) ∧ wx.cell? ⟨k, 2, none⟩ = some (.int .i64 X2) ∧ wx.cell? ⟨k, 3, none⟩ = some (.int .i64 Y2) ∧ wx.cell? ⟨k, 4, none⟩ = some (.int .i64 N) ∧ Below W3.heap.size W3 wx)
  case first =>
    go_region_held3 (fun w' => w'.cell? ⟨w2.heap.size, 0, none⟩ = some (.int .i64 X1) ∧ w'.cell? ⟨w2.heap.size, 1, none⟩ = some (.int .i64 Y1) ∧ w'.cell? ⟨w3.heap.size, 0, none⟩ = some (.int .i64 X2) ∧ w'.cell? ⟨w3.heap.size, 1, none⟩ = some (.int .i64 Y2) ∧ w'.cell? ⟨g, 2, none⟩ = some (.string (bs t))) ((first | (rename_i hH K0 hK0; obtain ⟨e0, e1, e2, e3, e4⟩ := hH; first | (with_reducible exact ⟨e0, e1, e2, e3, e4⟩) | (with_reducible exact ⟨(hb1.cell (p := ⟨w2.heap.size, 0, none⟩) (by first | omega | (simp; done) | (simp; omega))).trans e0, (hb1.cell (p := ⟨w2.heap.size, 1, none⟩) (by first | omega | (simp; done) | (simp; omega))).trans e1, (hb1.cell (p := ⟨w3.heap.size, 0, none⟩) (by first | omega | (simp; done) | (simp; omega))).trans e2, (hb1.cell (p := ⟨w3.heap.size, 1, none⟩) (by first | omega | (simp; done) | (simp; omega))).trans e3, (hb1.cell (p := ⟨g, 2, none⟩) (by first | omega | (simp; done) | (simp; omega))).trans e4⟩) | (with_reducible exact ⟨(World.cell?_alloc_past _ _ _ (by first | omega | (simp; omega))).trans e0, (World.cell?_alloc_past _ _ _ (by first | omega | (simp; omega))).trans e1, (World.cell?_alloc_past _ _ _ (by first | omega | (simp; omega))).trans e2, (World.cell?_alloc_past _ _ _ (by first | omega | (simp; omega))).trans e3, (World.cell?_alloc_past _ _ _ (by first | omega | (simp; omega))).trans e4⟩) | (with_reducible exact ⟨(World.cell?_alloc_past _ _ _ (by first | omega | (simp; omega))).trans ((World.cell?_alloc_past (.cells #[.int .i64 0, .int .i64 0, .int .i64 0, .int .i64 0, .int .i64 0] 29) _ _ (by first | omega | (simp; omega))).symm.trans e0), (World.cell?_alloc_past _ _ _ (by first | omega | (simp; omega))).trans ((World.cell?_alloc_past (.cells #[.int .i64 0, .int .i64 0, .int .i64 0, .int .i64 0, .int .i64 0] 29) _ _ (by first | omega | (simp; omega))).symm.trans e1), (World.cell?_alloc_past _ _ _ (by first | omega | (simp; omega))).trans ((World.cell?_alloc_past (.cells #[.int .i64 0, .int .i64 0, .int .i64 0, .int .i64 0, .int .i64 0] 29) _ _ (by first | omega | (simp; omega))).symm.trans e2), (World.cell?_alloc_past _ _ _ (by first | omega | (simp; omega))).trans ((World.cell?_alloc_past (.cells #[.int .i64 0, .int .i64 0, .int .i64 0, .int .i64 0, .int .i64 0] 29) _ _ (by first | omega | (simp; omega))).symm.trans e3), (World.cell?_alloc_past _ _ _ (by first | omega | (simp; omega))).trans ((World.cell?_alloc_past (.cells #[.int .i64 0, .int .i64 0, .int .i64 0, .int .i64 0, .int .i64 0] 29) _ _ (by first | omega | (simp; omega))).symm.trans e4)⟩) | (with_reducible exact ⟨(World.cell?_setCell_far _ _ _ _ (by intro e; dsimp only at e; omega)).trans ((World.cell?_setCell_far _ _ _ _ (by intro e; dsimp only at e; omega)).trans ((World.cell?_setCell_far _ _ _ _ (by intro e; dsimp only at e; omega)).trans ((World.cell?_setCell_far _ _ _ _ (by intro e; dsimp only at e; omega)).trans ((World.cell?_setCell_far _ _ _ _ (by intro e; dsimp only at e; omega)).trans (e0))))), (World.cell?_setCell_far _ _ _ _ (by intro e; dsimp only at e; omega)).trans ((World.cell?_setCell_far _ _ _ _ (by intro e; dsimp only at e; omega)).trans ((World.cell?_setCell_far _ _ _ _ (by intro e; dsimp only at e; omega)).trans ((World.cell?_setCell_far _ _ _ _ (by intro e; dsimp only at e; omega)).trans ((World.cell?_setCell_far _ _ _ _ (by intro e; dsimp only at e; omega)).trans (e1))))), (World.cell?_setCell_far _ _ _ _ (by intro e; dsimp only at e; omega)).trans ((World.cell?_setCell_far _ _ _ _ (by intro e; dsimp only at e; omega)).trans ((World.cell?_setCell_far _ _ _ _ (by intro e; dsimp only at e; omega)).trans ((World.cell?_setCell_far _ _ _ _ (by intro e; dsimp only at e; omega)).trans ((World.cell?_setCell_far _ _ _ _ (by intro e; dsimp only at e; omega)).trans (e2))))), (World.cell?_setCell_far _ _ _ _ (by intro e; dsimp only at e; omega)).trans ((World.cell?_setCell_far _ _ _ _ (by intro e; dsimp only at e; omega)).trans ((World.cell?_setCell_far _ _ _ _ (by intro e; dsimp only at e; omega)).trans ((World.cell?_setCell_far _ _ _ _ (by intro e; dsimp only at e; omega)).trans ((World.cell?_setCell_far _ _ _ _ (by intro e; dsimp only at e; omega)).trans (e3))))), (World.cell?_setCell_far _ _ _ _ (by intro e; dsimp only at e; omega)).trans ((World.cell?_setCell_far _ _ _ _ (by intro e; dsimp only at e; omega)).trans ((World.cell?_setCell_far _ _ _ _ (by intro e; dsimp only at e; omega)).trans ((World.cell?_setCell_far _ _ _ _ (by intro e; dsimp only at e; omega)).trans ((World.cell?_setCell_far _ _ _ _ (by intro e; dsimp only at e; omega)).trans (e4)))))⟩)) | (refine ⟨?_, ?_, ?_, ?_, ?_⟩ <;> first | (go_keep; done) | (simp [*, World.cell?_alloc_past, World.cell?_setCell_far]; done) | (simp [*, World.cell?_alloc_past, World.cell?_alloc_at, World.cell?_setCell_far]; done) | (go_simp; done))))
      (first | (go_at_call 53; ((with_reducible refine (HR.out _).mono ?_); rintro e w1 ⟨rfl, hb1⟩; have hs1 := hb1.size; (try simp at hs1); (first | have hk4 := call_facts hl3 hb1 (by simp) | skip); (first | have hk3 := call_facts hl2 hb1 (by simp) | skip); (first | have hk2 := call_facts hl1 hb1 (by simp) | skip); have hk1 := call_facts (fun b h => h) hb1 (Nat.le_refl _); (first | have hl4 := hk4.1 | skip); (first | have hl3 := hk3.1 | skip); (first | have hl2 := hk2.1 | skip); have hl1 := hk1.1)))
    all_goals
      go_wp2_with fail
      go_meet
      refine ⟨_, rfl, ?_, ?_, ?_, ?_, ?_, ?_, ?_, (by repeat (first | exact Below.refl _ _ | assumption | refine Below.drew ?_ | refine below_drewN ?_ _ | refine Below.alloc ?_ (by first | omega | (simp; done) | (simp; omega)) _ | refine Below.setCell ?_ (by first | omega | (simp; done) | (simp; omega)) _ | refine Below.trans ?_ (Below.mono (by assumption) (by first | omega | (simp; done) | (simp; omega)))))⟩
      all_goals first | (omega; done) | (simp; done) | (simp; omega) | (go_simp; done) | (simp [*, World.cell?_alloc_past, World.cell?_alloc_at]; done)
  case rest =>
    obtain ⟨k, rfl, hk, hkl, k0, k1, k2, k3, k4, hbw⟩ := hcut
    have hws := hbw.size
    have hkn : ¬ k = w.heap.size := by omega
    have hkn2 : ¬ w.heap.size = k := by omega
    have hwl : w.heap.size < wc.heap.size := by omega
    have r0wc : wc.cell? ⟨w.heap.size, 0, none⟩ = some (.int .i64 0) := (hbw.cell (p := ⟨w.heap.size, 0, none⟩) (by first | omega | (simp; done) | (simp; omega))).trans r0W3
    have z0wc : wc.frozen? ⟨w.heap.size, 0, none⟩ = false := (hbw.frozen (p := ⟨w.heap.size, 0, none⟩) (by first | omega | (simp; done) | (simp; omega))).trans z0W3
    have r1wc : wc.cell? ⟨w.heap.size, 1, none⟩ = some (.int .i64 0) := (hbw.cell (p := ⟨w.heap.size, 1, none⟩) (by first | omega | (simp; done) | (simp; omega))).trans r1W3
    have z1wc : wc.frozen? ⟨w.heap.size, 1, none⟩ = false := (hbw.frozen (p := ⟨w.heap.size, 1, none⟩) (by first | omega | (simp; done) | (simp; omega))).trans z1W3
    have r2wc : wc.cell? ⟨w.heap.size, 2, none⟩ = some (.int .i64 0) := (hbw.cell (p := ⟨w.heap.size, 2, none⟩) (by first | omega | (simp; done) | (simp; omega))).trans r2W3
    have z2wc : wc.frozen? ⟨w.heap.size, 2, none⟩ = false := (hbw.frozen (p := ⟨w.heap.size, 2, none⟩) (by first | omega | (simp; done) | (simp; omega))).trans z2W3
    have r3wc : wc.cell? ⟨w.heap.size, 3, none⟩ = some (.int .i64 0) := (hbw.cell (p := ⟨w.heap.size, 3, none⟩) (by first | omega | (simp; done) | (simp; omega))).trans r3W3
    have z3wc : wc.frozen? ⟨w.heap.size, 3, none⟩ = false := (hbw.frozen (p := ⟨w.heap.size, 3, none⟩) (by first | omega | (simp; done) | (simp; omega))).trans z3W3
    have r4wc : wc.cell? ⟨w.heap.size, 4, none⟩ = some (.int .i64 0) := (hbw.cell (p := ⟨w.heap.size, 4, none⟩) (by first | omega | (simp; done) | (simp; omega))).trans r4W3
    have z4wc : wc.frozen? ⟨w.heap.size, 4, none⟩ = false := (hbw.frozen (p := ⟨w.heap.size, 4, none⟩) (by first | omega | (simp; done) | (simp; omega))).trans z4W3
    have hB5 : Below w.heap.size w wc := hB4.trans (hbw.mono (by omega))
    clear hbw r0W3 z0W3 r1W3 z1W3 r2W3 z2W3 r3W3 z3W3 r4W3 z4W3 hB4
    go_wp2_with (go_at_call 36; ((with_reducible refine (HG.out _).mono ?_); rintro e w1 ⟨rfl, hb1⟩; have k0 := (hb1.cell (p := ⟨k, 0, none⟩) (by first | omega | (simp; done) | (simp; omega))).trans k0; have k1 := (hb1.cell (p := ⟨k, 1, none⟩) (by first | omega | (simp; done) | (simp; omega))).trans k1; have k2 := (hb1.cell (p := ⟨k, 2, none⟩) (by first | omega | (simp; done) | (simp; omega))).trans k2; have k3 := (hb1.cell (p := ⟨k, 3, none⟩) (by first | omega | (simp; done) | (simp; omega))).trans k3; have k4 := (hb1.cell (p := ⟨k, 4, none⟩) (by first | omega | (simp; done) | (simp; omega))).trans k4; have r0wc := (hb1.cell (p := ⟨w.heap.size, 0, none⟩) (by first | omega | (simp; done) | (simp; omega))).trans r0wc; have z0wc := (hb1.frozen (p := ⟨w.heap.size, 0, none⟩) (by first | omega | (simp; done) | (simp; omega))).trans z0wc; have r1wc := (hb1.cell (p := ⟨w.heap.size, 1, none⟩) (by first | omega | (simp; done) | (simp; omega))).trans r1wc; have z1wc := (hb1.frozen (p := ⟨w.heap.size, 1, none⟩) (by first | omega | (simp; done) | (simp; omega))).trans z1wc; have r2wc := (hb1.cell (p := ⟨w.heap.size, 2, none⟩) (by first | omega | (simp; done) | (simp; omega))).trans r2wc; have z2wc := (hb1.frozen (p := ⟨w.heap.size, 2, none⟩) (by first | omega | (simp; done) | (simp; omega))).trans z2wc; have r3wc := (hb1.cell (p := ⟨w.heap.size, 3, none⟩) (by first | omega | (simp; done) | (simp; omega))).trans r3wc; have z3wc := (hb1.frozen (p := ⟨w.heap.size, 3, none⟩) (by first | omega | (simp; done) | (simp; omega))).trans z3wc; have r4wc := (hb1.cell (p := ⟨w.heap.size, 4, none⟩) (by first | omega | (simp; done) | (simp; omega))).trans r4wc; have z4wc := (hb1.frozen (p := ⟨w.heap.size, 4, none⟩) (by first | omega | (simp; done) | (simp; omega))).trans z4wc; have hkl := Nat.lt_of_lt_of_le hkl hb1.size; have hwl := Nat.lt_of_lt_of_le hwl hb1.size))
    first | exact bodyPost_ret (v := .tuple #[.agg #[.int .i64 0, .int .i64 0, .int .i64 0, .int .i64 0, .int .i64 0], .bool false]) (by simp [results, Try.results34, go_sem, *]) rfl ⟨rfl, (by repeat (first | with_reducible exact Below.refl _ _ | with_reducible assumption | with_reducible refine Below.drew ?_ | with_reducible refine below_drewN ?_ _ | with_reducible refine Below.alloc ?_ (by first | omega | (simp; done) | (simp; omega)) _ | with_reducible refine Below.setCell ?_ (by first | omega | (simp; done) | (simp; omega)) _ | with_reducible refine Below.trans ?_ (Below.mono (by assumption) (by first | omega | (simp; done) | (simp; omega)))))⟩

set_option maxHeartbeats 4000000 in
theorem specPM_y (l : List UInt8) {p q t : List UInt8} (hl : l.length ≤ 1048576) (h : splitL 32 l = [p, q, t]) (hlq : l = p ++ 32 :: (q ++ 32 :: t)) (h1 : okS p = true) (h2 : okS q = true) (h3 : isMv (spX p) (spY p) (spX q) (spY q) (readL t) = true) (w : World) :
    Calls Try.prog 34 #[.string (bs l)] w fun e w' => e = .returned (.tuple #[.agg #[.int .i64 (spX p), .int .i64 (spY p), .int .i64 (spX q), .int .i64 (spY q), .int .i64 (readL t)], .bool true]) ∧ Below w.heap.size w w' := by
  have HS := Lib.hid (l1Split_form l 32 32 rfl hl h rfl)
  simp only [List.length_cons, List.length_nil] at HS
  have hll : p.length ≤ 1048576 ∧ q.length ≤ 1048576 ∧ t.length ≤ 1048576 := by
    have := congrArg List.length hlq
    simp at this
    omega
  have HP := Lib.hid (fun W => stParse_any p hll.1 W)
  have HQ := Lib.hid (fun W => stParse_any q hll.2.1 W)
  have HR := Lib.hid (fun W => l1Read_any t W)
  unfold ansS at HP HQ
  rw [h1] at HP
  rw [h2] at HQ
  have HG := Lib.hid (fun W => mvGood_any (spX p) (spY p) (spX q) (spY q) (readL t) W)
  rw [h3] at HG
  have HT := Lib.hid (fun W => mvText_any (spX p) (spY p) (spX q) (spY q) (readL t) h3 W)
  rw [move_read h1 h2 h3, ← hlq] at HT
  clear h1 h2 h3
  clear hlq hll h hl
  obtain ⟨X1, hX1⟩ : ∃ z, z = spX p := ⟨_, rfl⟩
  obtain ⟨Y1, hY1⟩ : ∃ z, z = spY p := ⟨_, rfl⟩
  obtain ⟨X2, hX2⟩ : ∃ z, z = spX q := ⟨_, rfl⟩
  obtain ⟨Y2, hY2⟩ : ∃ z, z = spY q := ⟨_, rfl⟩
  obtain ⟨N, hN⟩ : ∃ z, z = readL t := ⟨_, rfl⟩
  rw [← hX1, ← hY1] at HP
  rw [← hX2, ← hY2] at HQ
  rw [← hN] at HR
  rw [← hX1, ← hY1, ← hX2, ← hY2, ← hN] at HG HT
  rw [← hX1, ← hY1, ← hX2, ← hY2, ← hN]
  clear hX1 hY1 hX2 hY2 hN
  obtain ⟨q1, q2, q3, q4, q5, q6, q7⟩ := nadd
  go_enter Try.func34, Try.ntmps34
  go_wp2_with fail
  refine (HS.out _).mono ?_
  rintro e w1 ⟨g, cap, rfl, hg, hgl, hcell, hb1⟩
  have cl0 := hcell 0 (by simp)
  have cl1 := hcell 1 (by simp)
  have cl2 := hcell 2 (by simp)
  clear hcell
  simp only [List.getElem_cons_zero, List.getElem_cons_succ] at cl0 cl1 cl2
  have hgw : w.heap.size < g := by simp at hg; omega
  have hs1 : w.heap.size < w1.heap.size := by omega
  have hB1 : Below w.heap.size w w1 := (by repeat (first | exact Below.refl _ _ | assumption | refine Below.drew ?_ | refine below_drewN ?_ _ | refine Below.alloc ?_ (by first | omega | (simp; done) | (simp; omega)) _ | refine Below.setCell ?_ (by first | omega | (simp; done) | (simp; omega)) _ | refine Below.trans ?_ (Below.mono (by assumption) (by first | omega | (simp; done) | (simp; omega)))))
  have r0w1 : w1.cell? ⟨w.heap.size, 0, none⟩ = some (.int .i64 0) := (hb1.cell (p := ⟨w.heap.size, 0, none⟩) (by first | omega | (simp; done) | (simp; omega))).trans (by go_simp)
  have z0w1 : w1.frozen? ⟨w.heap.size, 0, none⟩ = false := (hb1.frozen (p := ⟨w.heap.size, 0, none⟩) (by first | omega | (simp; done) | (simp; omega))).trans (by go_simp)
  have r1w1 : w1.cell? ⟨w.heap.size, 1, none⟩ = some (.int .i64 0) := (hb1.cell (p := ⟨w.heap.size, 1, none⟩) (by first | omega | (simp; done) | (simp; omega))).trans (by go_simp)
  have z1w1 : w1.frozen? ⟨w.heap.size, 1, none⟩ = false := (hb1.frozen (p := ⟨w.heap.size, 1, none⟩) (by first | omega | (simp; done) | (simp; omega))).trans (by go_simp)
  have r2w1 : w1.cell? ⟨w.heap.size, 2, none⟩ = some (.int .i64 0) := (hb1.cell (p := ⟨w.heap.size, 2, none⟩) (by first | omega | (simp; done) | (simp; omega))).trans (by go_simp)
  have z2w1 : w1.frozen? ⟨w.heap.size, 2, none⟩ = false := (hb1.frozen (p := ⟨w.heap.size, 2, none⟩) (by first | omega | (simp; done) | (simp; omega))).trans (by go_simp)
  have r3w1 : w1.cell? ⟨w.heap.size, 3, none⟩ = some (.int .i64 0) := (hb1.cell (p := ⟨w.heap.size, 3, none⟩) (by first | omega | (simp; done) | (simp; omega))).trans (by go_simp)
  have z3w1 : w1.frozen? ⟨w.heap.size, 3, none⟩ = false := (hb1.frozen (p := ⟨w.heap.size, 3, none⟩) (by first | omega | (simp; done) | (simp; omega))).trans (by go_simp)
  have r4w1 : w1.cell? ⟨w.heap.size, 4, none⟩ = some (.int .i64 0) := (hb1.cell (p := ⟨w.heap.size, 4, none⟩) (by first | omega | (simp; done) | (simp; omega))).trans (by go_simp)
  have z4w1 : w1.frozen? ⟨w.heap.size, 4, none⟩ = false := (hb1.frozen (p := ⟨w.heap.size, 4, none⟩) (by first | omega | (simp; done) | (simp; omega))).trans (by go_simp)
  clear hb1 hg
  go_wp2_with fail
  refine (HP.out _).mono ?_
  rintro e w2 ⟨rfl, hb2⟩
  have hs2 := hb2.size
  have hB2 : Below w.heap.size w w2 := hB1.trans (hb2.mono (by omega))
  have cl1 := (hb2.cell (p := ⟨g, 1, none⟩) hgl).trans cl1
  have cl2 := (hb2.cell (p := ⟨g, 2, none⟩) hgl).trans cl2
  have hgl2 : g < w2.heap.size := by omega
  have hw2 : w.heap.size < w2.heap.size := by omega
  have r0w2 : w2.cell? ⟨w.heap.size, 0, none⟩ = some (.int .i64 0) := (hb2.cell (p := ⟨w.heap.size, 0, none⟩) (by first | omega | (simp; done) | (simp; omega))).trans r0w1
  have z0w2 : w2.frozen? ⟨w.heap.size, 0, none⟩ = false := (hb2.frozen (p := ⟨w.heap.size, 0, none⟩) (by first | omega | (simp; done) | (simp; omega))).trans z0w1
  have r1w2 : w2.cell? ⟨w.heap.size, 1, none⟩ = some (.int .i64 0) := (hb2.cell (p := ⟨w.heap.size, 1, none⟩) (by first | omega | (simp; done) | (simp; omega))).trans r1w1
  have z1w2 : w2.frozen? ⟨w.heap.size, 1, none⟩ = false := (hb2.frozen (p := ⟨w.heap.size, 1, none⟩) (by first | omega | (simp; done) | (simp; omega))).trans z1w1
  have r2w2 : w2.cell? ⟨w.heap.size, 2, none⟩ = some (.int .i64 0) := (hb2.cell (p := ⟨w.heap.size, 2, none⟩) (by first | omega | (simp; done) | (simp; omega))).trans r2w1
  have z2w2 : w2.frozen? ⟨w.heap.size, 2, none⟩ = false := (hb2.frozen (p := ⟨w.heap.size, 2, none⟩) (by first | omega | (simp; done) | (simp; omega))).trans z2w1
  have r3w2 : w2.cell? ⟨w.heap.size, 3, none⟩ = some (.int .i64 0) := (hb2.cell (p := ⟨w.heap.size, 3, none⟩) (by first | omega | (simp; done) | (simp; omega))).trans r3w1
  have z3w2 : w2.frozen? ⟨w.heap.size, 3, none⟩ = false := (hb2.frozen (p := ⟨w.heap.size, 3, none⟩) (by first | omega | (simp; done) | (simp; omega))).trans z3w1
  have r4w2 : w2.cell? ⟨w.heap.size, 4, none⟩ = some (.int .i64 0) := (hb2.cell (p := ⟨w.heap.size, 4, none⟩) (by first | omega | (simp; done) | (simp; omega))).trans r4w1
  have z4w2 : w2.frozen? ⟨w.heap.size, 4, none⟩ = false := (hb2.frozen (p := ⟨w.heap.size, 4, none⟩) (by first | omega | (simp; done) | (simp; omega))).trans z4w1
  clear hb2
  go_wp2_with fail
  refine (HQ.out _).mono ?_
  rintro e w3 ⟨rfl, hb3⟩
  have hs3 := hb3.size
  simp at hs3
  have hB3 : Below w.heap.size w w3 := (by repeat (first | exact Below.refl _ _ | assumption | refine Below.drew ?_ | refine below_drewN ?_ _ | refine Below.alloc ?_ (by first | omega | (simp; done) | (simp; omega)) _ | refine Below.setCell ?_ (by first | omega | (simp; done) | (simp; omega)) _ | refine Below.trans ?_ (Below.mono (by assumption) (by first | omega | (simp; done) | (simp; omega)))))
  have cl2 : w3.cell? ⟨g, 2, none⟩ = some (.string (bs t)) := (hb3.cell (p := ⟨g, 2, none⟩) (by first | omega | (simp; done) | (simp; omega))).trans ((World.cell?_alloc_past _ _ _ (by first | omega | (simp; done) | (simp; omega))).trans cl2)
  have b50 : w3.cell? ⟨w2.heap.size, 0, none⟩ = some (.int .i64 X1) := (hb3.cell (p := ⟨w2.heap.size, 0, none⟩) (by first | omega | (simp; done) | (simp; omega))).trans (by go_simp)
  have b51 : w3.cell? ⟨w2.heap.size, 1, none⟩ = some (.int .i64 Y1) := (hb3.cell (p := ⟨w2.heap.size, 1, none⟩) (by first | omega | (simp; done) | (simp; omega))).trans (by go_simp)
  have r0w3 : w3.cell? ⟨w.heap.size, 0, none⟩ = some (.int .i64 0) := (hb3.cell (p := ⟨w.heap.size, 0, none⟩) (by first | omega | (simp; done) | (simp; omega))).trans ((World.cell?_alloc_past _ _ _ (by first | omega | (simp; done) | (simp; omega))).trans r0w2)
  have z0w3 : w3.frozen? ⟨w.heap.size, 0, none⟩ = false := (hb3.frozen (p := ⟨w.heap.size, 0, none⟩) (by first | omega | (simp; done) | (simp; omega))).trans (by have := z0w2; go_simp)
  have r1w3 : w3.cell? ⟨w.heap.size, 1, none⟩ = some (.int .i64 0) := (hb3.cell (p := ⟨w.heap.size, 1, none⟩) (by first | omega | (simp; done) | (simp; omega))).trans ((World.cell?_alloc_past _ _ _ (by first | omega | (simp; done) | (simp; omega))).trans r1w2)
  have z1w3 : w3.frozen? ⟨w.heap.size, 1, none⟩ = false := (hb3.frozen (p := ⟨w.heap.size, 1, none⟩) (by first | omega | (simp; done) | (simp; omega))).trans (by have := z1w2; go_simp)
  have r2w3 : w3.cell? ⟨w.heap.size, 2, none⟩ = some (.int .i64 0) := (hb3.cell (p := ⟨w.heap.size, 2, none⟩) (by first | omega | (simp; done) | (simp; omega))).trans ((World.cell?_alloc_past _ _ _ (by first | omega | (simp; done) | (simp; omega))).trans r2w2)
  have z2w3 : w3.frozen? ⟨w.heap.size, 2, none⟩ = false := (hb3.frozen (p := ⟨w.heap.size, 2, none⟩) (by first | omega | (simp; done) | (simp; omega))).trans (by have := z2w2; go_simp)
  have r3w3 : w3.cell? ⟨w.heap.size, 3, none⟩ = some (.int .i64 0) := (hb3.cell (p := ⟨w.heap.size, 3, none⟩) (by first | omega | (simp; done) | (simp; omega))).trans ((World.cell?_alloc_past _ _ _ (by first | omega | (simp; done) | (simp; omega))).trans r3w2)
  have z3w3 : w3.frozen? ⟨w.heap.size, 3, none⟩ = false := (hb3.frozen (p := ⟨w.heap.size, 3, none⟩) (by first | omega | (simp; done) | (simp; omega))).trans (by have := z3w2; go_simp)
  have r4w3 : w3.cell? ⟨w.heap.size, 4, none⟩ = some (.int .i64 0) := (hb3.cell (p := ⟨w.heap.size, 4, none⟩) (by first | omega | (simp; done) | (simp; omega))).trans ((World.cell?_alloc_past _ _ _ (by first | omega | (simp; done) | (simp; omega))).trans r4w2)
  have z4w3 : w3.frozen? ⟨w.heap.size, 4, none⟩ = false := (hb3.frozen (p := ⟨w.heap.size, 4, none⟩) (by first | omega | (simp; done) | (simp; omega))).trans (by have := z4w2; go_simp)
  clear hb3 cl0 cl1
  go_upto_region 6 with fail
  obtain ⟨W3, hW3⟩ : ∃ W3, W3 = w3.alloc (.cells #[.int .i64 X2, .int .i64 Y2] 27) := ⟨_, rfl⟩
  have hW3b : Below w3.heap.size w3 W3 := by rw [hW3]; exact (Below.refl _ _).alloc (Nat.le_refl _) _
  have hW3s : W3.heap.size = w3.heap.size + 1 := by rw [hW3]; simp
  have d70 : W3.cell? ⟨w3.heap.size, 0, none⟩ = some (.int .i64 X2) := by rw [hW3]; go_simp
  have d71 : W3.cell? ⟨w3.heap.size, 1, none⟩ = some (.int .i64 Y2) := by rw [hW3]; go_simp
  rw [← hW3]
  clear hW3
  have d50 := (hW3b.cell (p := ⟨w2.heap.size, 0, none⟩) (by first | omega | (simp; done) | (simp; omega))).trans b50
  have d51 := (hW3b.cell (p := ⟨w2.heap.size, 1, none⟩) (by first | omega | (simp; done) | (simp; omega))).trans b51
  have d2 := (hW3b.cell (p := ⟨g, 2, none⟩) (by first | omega | (simp; done) | (simp; omega))).trans cl2
  have r0W3 : W3.cell? ⟨w.heap.size, 0, none⟩ = some (.int .i64 0) := (hW3b.cell (p := ⟨w.heap.size, 0, none⟩) (by first | omega | (simp; done) | (simp; omega))).trans r0w3
  have z0W3 : W3.frozen? ⟨w.heap.size, 0, none⟩ = false := (hW3b.frozen (p := ⟨w.heap.size, 0, none⟩) (by first | omega | (simp; done) | (simp; omega))).trans z0w3
  have r1W3 : W3.cell? ⟨w.heap.size, 1, none⟩ = some (.int .i64 0) := (hW3b.cell (p := ⟨w.heap.size, 1, none⟩) (by first | omega | (simp; done) | (simp; omega))).trans r1w3
  have z1W3 : W3.frozen? ⟨w.heap.size, 1, none⟩ = false := (hW3b.frozen (p := ⟨w.heap.size, 1, none⟩) (by first | omega | (simp; done) | (simp; omega))).trans z1w3
  have r2W3 : W3.cell? ⟨w.heap.size, 2, none⟩ = some (.int .i64 0) := (hW3b.cell (p := ⟨w.heap.size, 2, none⟩) (by first | omega | (simp; done) | (simp; omega))).trans r2w3
  have z2W3 : W3.frozen? ⟨w.heap.size, 2, none⟩ = false := (hW3b.frozen (p := ⟨w.heap.size, 2, none⟩) (by first | omega | (simp; done) | (simp; omega))).trans z2w3
  have r3W3 : W3.cell? ⟨w.heap.size, 3, none⟩ = some (.int .i64 0) := (hW3b.cell (p := ⟨w.heap.size, 3, none⟩) (by first | omega | (simp; done) | (simp; omega))).trans r3w3
  have z3W3 : W3.frozen? ⟨w.heap.size, 3, none⟩ = false := (hW3b.frozen (p := ⟨w.heap.size, 3, none⟩) (by first | omega | (simp; done) | (simp; omega))).trans z3w3
  have r4W3 : W3.cell? ⟨w.heap.size, 4, none⟩ = some (.int .i64 0) := (hW3b.cell (p := ⟨w.heap.size, 4, none⟩) (by first | omega | (simp; done) | (simp; omega))).trans r4w3
  have z4W3 : W3.frozen? ⟨w.heap.size, 4, none⟩ = false := (hW3b.frozen (p := ⟨w.heap.size, 4, none⟩) (by first | omega | (simp; done) | (simp; omega))).trans z4w3
  have hB4 : Below w.heap.size w W3 := hB3.trans (hW3b.mono (by omega))
  have hgW : g < W3.heap.size := by omega
  have h5W : w2.heap.size < W3.heap.size := by omega
  have h7W : w3.heap.size < W3.heap.size := by omega
  have hl1 : ∀ b, b < W3.heap.size → b < W3.heap.size := fun _ h => h
  clear b50 b51 cl2 hB1 hB2 hB3 hW3b
  go_cut [9] (fun s9 wx => ∃ k : Nat, s9 = .pointer (some ⟨k, 0, none⟩) ∧ W3.heap.size ≤ k ∧ k < wx.heap.size ∧ wx.cell? ⟨k, 0, none⟩ = some (.int .i64 X1) ∧ wx.cell? ⟨k, 1, none⟩ = some (.int .i64 Y1) ∧ wx.cell? ⟨k, 2, none⟩ = some (.int .i64 X2) ∧ wx.cell? ⟨k, 3, none⟩ = some (.int .i64 Y2) ∧ wx.cell? ⟨k, 4, none⟩ = some (.int .i64 N) ∧ Below W3.heap.size W3 wx)
  case first =>
    go_region_held3 (fun w' => w'.cell? ⟨w2.heap.size, 0, none⟩ = some (.int .i64 X1) ∧ w'.cell? ⟨w2.heap.size, 1, none⟩ = some (.int .i64 Y1) ∧ w'.cell? ⟨w3.heap.size, 0, none⟩ = some (.int .i64 X2) ∧ w'.cell? ⟨w3.heap.size, 1, none⟩ = some (.int .i64 Y2) ∧ w'.cell? ⟨g, 2, none⟩ = some (.string (bs t))) ((first | (rename_i hH K0 hK0; obtain ⟨e0, e1, e2, e3, e4⟩ := hH; first | (with_reducible exact ⟨e0, e1, e2, e3, e4⟩) | (with_reducible exact ⟨(hb1.cell (p := ⟨w2.heap.size, 0, none⟩) (by first | omega | (simp; done) | (simp; omega))).trans e0, (hb1.cell (p := ⟨w2.heap.size, 1, none⟩) (by first | omega | (simp; done) | (simp; omega))).trans e1, (hb1.cell (p := ⟨w3.heap.size, 0, none⟩) (by first | omega | (simp; done) | (simp; omega))).trans e2, (hb1.cell (p := ⟨w3.heap.size, 1, none⟩) (by first | omega | (simp; done) | (simp; omega))).trans e3, (hb1.cell (p := ⟨g, 2, none⟩) (by first | omega | (simp; done) | (simp; omega))).trans e4⟩) | (with_reducible exact ⟨(World.cell?_alloc_past _ _ _ (by first | omega | (simp; omega))).trans e0, (World.cell?_alloc_past _ _ _ (by first | omega | (simp; omega))).trans e1, (World.cell?_alloc_past _ _ _ (by first | omega | (simp; omega))).trans e2, (World.cell?_alloc_past _ _ _ (by first | omega | (simp; omega))).trans e3, (World.cell?_alloc_past _ _ _ (by first | omega | (simp; omega))).trans e4⟩) | (with_reducible exact ⟨(World.cell?_alloc_past _ _ _ (by first | omega | (simp; omega))).trans ((World.cell?_alloc_past (.cells #[.int .i64 0, .int .i64 0, .int .i64 0, .int .i64 0, .int .i64 0] 29) _ _ (by first | omega | (simp; omega))).symm.trans e0), (World.cell?_alloc_past _ _ _ (by first | omega | (simp; omega))).trans ((World.cell?_alloc_past (.cells #[.int .i64 0, .int .i64 0, .int .i64 0, .int .i64 0, .int .i64 0] 29) _ _ (by first | omega | (simp; omega))).symm.trans e1), (World.cell?_alloc_past _ _ _ (by first | omega | (simp; omega))).trans ((World.cell?_alloc_past (.cells #[.int .i64 0, .int .i64 0, .int .i64 0, .int .i64 0, .int .i64 0] 29) _ _ (by first | omega | (simp; omega))).symm.trans e2), (World.cell?_alloc_past _ _ _ (by first | omega | (simp; omega))).trans ((World.cell?_alloc_past (.cells #[.int .i64 0, .int .i64 0, .int .i64 0, .int .i64 0, .int .i64 0] 29) _ _ (by first | omega | (simp; omega))).symm.trans e3), (World.cell?_alloc_past _ _ _ (by first | omega | (simp; omega))).trans ((World.cell?_alloc_past (.cells #[.int .i64 0, .int .i64 0, .int .i64 0, .int .i64 0, .int .i64 0] 29) _ _ (by first | omega | (simp; omega))).symm.trans e4)⟩) | (with_reducible exact ⟨(World.cell?_setCell_far _ _ _ _ (by intro e; dsimp only at e; omega)).trans ((World.cell?_setCell_far _ _ _ _ (by intro e; dsimp only at e; omega)).trans ((World.cell?_setCell_far _ _ _ _ (by intro e; dsimp only at e; omega)).trans ((World.cell?_setCell_far _ _ _ _ (by intro e; dsimp only at e; omega)).trans ((World.cell?_setCell_far _ _ _ _ (by intro e; dsimp only at e; omega)).trans (e0))))), (World.cell?_setCell_far _ _ _ _ (by intro e; dsimp only at e; omega)).trans ((World.cell?_setCell_far _ _ _ _ (by intro e; dsimp only at e; omega)).trans ((World.cell?_setCell_far _ _ _ _ (by intro e; dsimp only at e; omega)).trans ((World.cell?_setCell_far _ _ _ _ (by intro e; dsimp only at e; omega)).trans ((World.cell?_setCell_far _ _ _ _ (by intro e; dsimp only at e; omega)).trans (e1))))), (World.cell?_setCell_far _ _ _ _ (by intro e; dsimp only at e; omega)).trans ((World.cell?_setCell_far _ _ _ _ (by intro e; dsimp only at e; omega)).trans ((World.cell?_setCell_far _ _ _ _ (by intro e; dsimp only at e; omega)).trans ((World.cell?_setCell_far _ _ _ _ (by intro e; dsimp only at e; omega)).trans ((World.cell?_setCell_far _ _ _ _ (by intro e; dsimp only at e; omega)).trans (e2))))), (World.cell?_setCell_far _ _ _ _ (by intro e; dsimp only at e; omega)).trans ((World.cell?_setCell_far _ _ _ _ (by intro e; dsimp only at e; omega)).trans ((World.cell?_setCell_far _ _ _ _ (by intro e; dsimp only at e; omega)).trans ((World.cell?_setCell_far _ _ _ _ (by intro e; dsimp only at e; omega)).trans ((World.cell?_setCell_far _ _ _ _ (by intro e; dsimp only at e; omega)).trans (e3))))), (World.cell?_setCell_far _ _ _ _ (by intro e; dsimp only at e; omega)).trans ((World.cell?_setCell_far _ _ _ _ (by intro e; dsimp only at e; omega)).trans ((World.cell?_setCell_far _ _ _ _ (by intro e; dsimp only at e; omega)).trans ((World.cell?_setCell_far _ _ _ _ (by intro e; dsimp only at e; omega)).trans ((World.cell?_setCell_far _ _ _ _ (by intro e; dsimp only at e; omega)).trans (e4)))))⟩)) | (refine ⟨?_, ?_, ?_, ?_, ?_⟩ <;> first | (go_keep; done) | (simp [*, World.cell?_alloc_past, World.cell?_setCell_far]; done) | (simp [*, World.cell?_alloc_past, World.cell?_alloc_at, World.cell?_setCell_far]; done) | (go_simp; done))))
      (first | (go_at_call 53; ((with_reducible refine (HR.out _).mono ?_); rintro e w1 ⟨rfl, hb1⟩; have hs1 := hb1.size; (try simp at hs1); (first | have hk4 := call_facts hl3 hb1 (by simp) | skip); (first | have hk3 := call_facts hl2 hb1 (by simp) | skip); (first | have hk2 := call_facts hl1 hb1 (by simp) | skip); have hk1 := call_facts (fun b h => h) hb1 (Nat.le_refl _); (first | have hl4 := hk4.1 | skip); (first | have hl3 := hk3.1 | skip); (first | have hl2 := hk2.1 | skip); have hl1 := hk1.1)))
    all_goals
      go_wp2_with fail
      go_meet
      refine ⟨_, rfl, ?_, ?_, ?_, ?_, ?_, ?_, ?_, (by repeat (first | exact Below.refl _ _ | assumption | refine Below.drew ?_ | refine below_drewN ?_ _ | refine Below.alloc ?_ (by first | omega | (simp; done) | (simp; omega)) _ | refine Below.setCell ?_ (by first | omega | (simp; done) | (simp; omega)) _ | refine Below.trans ?_ (Below.mono (by assumption) (by first | omega | (simp; done) | (simp; omega)))))⟩
      all_goals first | (omega; done) | (simp; done) | (simp; omega) | (go_simp; done) | (simp [*, World.cell?_alloc_past, World.cell?_alloc_at]; done)
  case rest =>
    obtain ⟨k, rfl, hk, hkl, k0, k1, k2, k3, k4, hbw⟩ := hcut
    have hws := hbw.size
    have hkn : ¬ k = w.heap.size := by omega
    have hkn2 : ¬ w.heap.size = k := by omega
    have hwl : w.heap.size < wc.heap.size := by omega
    have r0wc : wc.cell? ⟨w.heap.size, 0, none⟩ = some (.int .i64 0) := (hbw.cell (p := ⟨w.heap.size, 0, none⟩) (by first | omega | (simp; done) | (simp; omega))).trans r0W3
    have z0wc : wc.frozen? ⟨w.heap.size, 0, none⟩ = false := (hbw.frozen (p := ⟨w.heap.size, 0, none⟩) (by first | omega | (simp; done) | (simp; omega))).trans z0W3
    have r1wc : wc.cell? ⟨w.heap.size, 1, none⟩ = some (.int .i64 0) := (hbw.cell (p := ⟨w.heap.size, 1, none⟩) (by first | omega | (simp; done) | (simp; omega))).trans r1W3
    have z1wc : wc.frozen? ⟨w.heap.size, 1, none⟩ = false := (hbw.frozen (p := ⟨w.heap.size, 1, none⟩) (by first | omega | (simp; done) | (simp; omega))).trans z1W3
    have r2wc : wc.cell? ⟨w.heap.size, 2, none⟩ = some (.int .i64 0) := (hbw.cell (p := ⟨w.heap.size, 2, none⟩) (by first | omega | (simp; done) | (simp; omega))).trans r2W3
    have z2wc : wc.frozen? ⟨w.heap.size, 2, none⟩ = false := (hbw.frozen (p := ⟨w.heap.size, 2, none⟩) (by first | omega | (simp; done) | (simp; omega))).trans z2W3
    have r3wc : wc.cell? ⟨w.heap.size, 3, none⟩ = some (.int .i64 0) := (hbw.cell (p := ⟨w.heap.size, 3, none⟩) (by first | omega | (simp; done) | (simp; omega))).trans r3W3
    have z3wc : wc.frozen? ⟨w.heap.size, 3, none⟩ = false := (hbw.frozen (p := ⟨w.heap.size, 3, none⟩) (by first | omega | (simp; done) | (simp; omega))).trans z3W3
    have r4wc : wc.cell? ⟨w.heap.size, 4, none⟩ = some (.int .i64 0) := (hbw.cell (p := ⟨w.heap.size, 4, none⟩) (by first | omega | (simp; done) | (simp; omega))).trans r4W3
    have z4wc : wc.frozen? ⟨w.heap.size, 4, none⟩ = false := (hbw.frozen (p := ⟨w.heap.size, 4, none⟩) (by first | omega | (simp; done) | (simp; omega))).trans z4W3
    have hB5 : Below w.heap.size w wc := hB4.trans (hbw.mono (by omega))
    clear hbw r0W3 z0W3 r1W3 z1W3 r2W3 z2W3 r3W3 z3W3 r4W3 z4W3 hB4
    go_wp2_with (first | (go_at_call 36; ((with_reducible refine (HG.out _).mono ?_); rintro e w1 ⟨rfl, hb1⟩; have k0 := (hb1.cell (p := ⟨k, 0, none⟩) (by first | omega | (simp; done) | (simp; omega))).trans k0; have k1 := (hb1.cell (p := ⟨k, 1, none⟩) (by first | omega | (simp; done) | (simp; omega))).trans k1; have k2 := (hb1.cell (p := ⟨k, 2, none⟩) (by first | omega | (simp; done) | (simp; omega))).trans k2; have k3 := (hb1.cell (p := ⟨k, 3, none⟩) (by first | omega | (simp; done) | (simp; omega))).trans k3; have k4 := (hb1.cell (p := ⟨k, 4, none⟩) (by first | omega | (simp; done) | (simp; omega))).trans k4; have r0wc := (hb1.cell (p := ⟨w.heap.size, 0, none⟩) (by first | omega | (simp; done) | (simp; omega))).trans r0wc; have z0wc := (hb1.frozen (p := ⟨w.heap.size, 0, none⟩) (by first | omega | (simp; done) | (simp; omega))).trans z0wc; have r1wc := (hb1.cell (p := ⟨w.heap.size, 1, none⟩) (by first | omega | (simp; done) | (simp; omega))).trans r1wc; have z1wc := (hb1.frozen (p := ⟨w.heap.size, 1, none⟩) (by first | omega | (simp; done) | (simp; omega))).trans z1wc; have r2wc := (hb1.cell (p := ⟨w.heap.size, 2, none⟩) (by first | omega | (simp; done) | (simp; omega))).trans r2wc; have z2wc := (hb1.frozen (p := ⟨w.heap.size, 2, none⟩) (by first | omega | (simp; done) | (simp; omega))).trans z2wc; have r3wc := (hb1.cell (p := ⟨w.heap.size, 3, none⟩) (by first | omega | (simp; done) | (simp; omega))).trans r3wc; have z3wc := (hb1.frozen (p := ⟨w.heap.size, 3, none⟩) (by first | omega | (simp; done) | (simp; omega))).trans z3wc; have r4wc := (hb1.cell (p := ⟨w.heap.size, 4, none⟩) (by first | omega | (simp; done) | (simp; omega))).trans r4wc; have z4wc := (hb1.frozen (p := ⟨w.heap.size, 4, none⟩) (by first | omega | (simp; done) | (simp; omega))).trans z4wc; have hkl := Nat.lt_of_lt_of_le hkl hb1.size; have hwl := Nat.lt_of_lt_of_le hwl hb1.size)) | (go_at_call 54; ((with_reducible refine (HT.out _).mono ?_); rintro e w1 ⟨rfl, hb1⟩; have k0 := (hb1.cell (p := ⟨k, 0, none⟩) (by first | omega | (simp; done) | (simp; omega))).trans k0; have k1 := (hb1.cell (p := ⟨k, 1, none⟩) (by first | omega | (simp; done) | (simp; omega))).trans k1; have k2 := (hb1.cell (p := ⟨k, 2, none⟩) (by first | omega | (simp; done) | (simp; omega))).trans k2; have k3 := (hb1.cell (p := ⟨k, 3, none⟩) (by first | omega | (simp; done) | (simp; omega))).trans k3; have k4 := (hb1.cell (p := ⟨k, 4, none⟩) (by first | omega | (simp; done) | (simp; omega))).trans k4; have r0wc := (hb1.cell (p := ⟨w.heap.size, 0, none⟩) (by first | omega | (simp; done) | (simp; omega))).trans r0wc; have z0wc := (hb1.frozen (p := ⟨w.heap.size, 0, none⟩) (by first | omega | (simp; done) | (simp; omega))).trans z0wc; have r1wc := (hb1.cell (p := ⟨w.heap.size, 1, none⟩) (by first | omega | (simp; done) | (simp; omega))).trans r1wc; have z1wc := (hb1.frozen (p := ⟨w.heap.size, 1, none⟩) (by first | omega | (simp; done) | (simp; omega))).trans z1wc; have r2wc := (hb1.cell (p := ⟨w.heap.size, 2, none⟩) (by first | omega | (simp; done) | (simp; omega))).trans r2wc; have z2wc := (hb1.frozen (p := ⟨w.heap.size, 2, none⟩) (by first | omega | (simp; done) | (simp; omega))).trans z2wc; have r3wc := (hb1.cell (p := ⟨w.heap.size, 3, none⟩) (by first | omega | (simp; done) | (simp; omega))).trans r3wc; have z3wc := (hb1.frozen (p := ⟨w.heap.size, 3, none⟩) (by first | omega | (simp; done) | (simp; omega))).trans z3wc; have r4wc := (hb1.cell (p := ⟨w.heap.size, 4, none⟩) (by first | omega | (simp; done) | (simp; omega))).trans r4wc; have z4wc := (hb1.frozen (p := ⟨w.heap.size, 4, none⟩) (by first | omega | (simp; done) | (simp; omega))).trans z4wc; have hkl := Nat.lt_of_lt_of_le hkl hb1.size; have hwl := Nat.lt_of_lt_of_le hwl hb1.size)))
    first | exact bodyPost_ret (v := .tuple #[.agg #[.int .i64 X1, .int .i64 Y1, .int .i64 X2, .int .i64 Y2, .int .i64 N], .bool true]) (by simp [results, Try.results34, go_sem, *]) rfl ⟨rfl, (by repeat (first | with_reducible exact Below.refl _ _ | with_reducible assumption | with_reducible refine Below.drew ?_ | with_reducible refine below_drewN ?_ _ | with_reducible refine Below.alloc ?_ (by first | omega | (simp; done) | (simp; omega)) _ | with_reducible refine Below.setCell ?_ (by first | omega | (simp; done) | (simp; omega)) _ | with_reducible refine Below.trans ?_ (Below.mono (by assumption) (by first | omega | (simp; done) | (simp; omega)))))⟩

theorem specPM_any (l : List UInt8) (hl : l.length ≤ 1048576) (w : World) :
    Calls Try.prog 34 #[.string (bs l)] w fun e w' => e = .returned (ansMove l) ∧ Below w.heap.size w w' := by
  unfold ansMove
  match hL : splitL 32 l with
  | [] =>
    have := (splitL_length 32 l).1
    rw [hL] at this
    simp at this
  | [p] =>
    obtain ⟨a, b⟩ := ptR_none (split_one hL)
    rw [b, ptR_nil.1, ansM_no (okM_q okS_nil)]
    exact specPM_one l hl hL w
  | [p, q] =>
    obtain ⟨r, rfl, hp, hr⟩ := split_cons hL
    obtain ⟨a, b⟩ := ptR_some (r := r) hp
    rw [b, (ptR_none (split_one hr)).2, ansM_no (okM_t (okN_nil 64))]
    exact specPM_two _ hl hL w
  | [p, q, t] =>
    obtain ⟨r, hr0, hp, hr⟩ := split_cons hL
    obtain ⟨s, hs0, hq, hs⟩ := split_cons hr
    obtain rfl : s = t := split_one_eq hs
    have hlq : l = p ++ 32 :: (q ++ 32 :: s) := by rw [hr0, hs0]
    obtain ⟨a, b⟩ := ptR_some (r := q ++ 32 :: s) hp
    obtain ⟨c, d⟩ := ptR_some (r := s) hq
    have e1 : pt1 l = p := by rw [hlq]; exact a
    have e2 : ptR l = q ++ 32 :: s := by rw [hlq]; exact b
    rw [e1, e2, c, d]
    cases h1 : okS p
    · rw [ansM_no (okM_p h1)]
      exact specPM_p l hl hL hlq h1 w
    · cases h2 : okS q
      · rw [ansM_no (okM_q h2)]
        exact specPM_q l hl hL hlq h1 h2 w
      · cases h3 : isMv (spX p) (spY p) (spX q) (spY q) (readL s)
        · rw [ansM_no (okM_m h3)]
          exact specPM_m l hl hL hlq h1 h2 h3 w
        · rw [ansM_yes (okM_y h1 h2 h3)]
          exact specPM_y l hl hL hlq h1 h2 h3 w
  | p :: q :: r :: s :: t =>
    obtain ⟨m1, hr0, hp, hr⟩ := split_cons hL
    obtain ⟨m2, hs0, hq, hs⟩ := split_cons hr
    obtain ⟨m3, ht0, hr1, ht⟩ := split_cons hs
    obtain ⟨a, b⟩ := ptR_some (r := m1) hp
    obtain ⟨c, d⟩ := ptR_some (r := m2) hq
    have e1 : ptR (ptR l) = m2 := by rw [hr0, b, hs0, d]
    have hno : okN m2 64 = false := by
      cases e : okN m2 64
      · rfl
      · exact absurd (show (32 : UInt8) ∈ m2 by rw [ht0]; simp) (can_not (okN_iff.1 e).1 (by decide))
    rw [e1, ansM_no (okM_t hno)]
    exact specPM_more l hl hL w

end Go.Proofs.Ytagfleajkalgiaa
