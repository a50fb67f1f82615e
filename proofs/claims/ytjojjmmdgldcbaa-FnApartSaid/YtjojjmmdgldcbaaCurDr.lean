/- What chapter 6's draws hand over. Conditions: the bytes drawn from lie in memory. -/
import Derived.Test.YtjojjmmdgldcbaaCurTo
import Derived.Deep.RegionHeld3
import Derived.Deep.DrawnRows
import Derived.IntWalk
import Derived.Laws.AppendOwn
import Derived.Deep.DeepCutAuto
import Derived.Deep.RegionWith
namespace Go.Proofs.Ytjojjmmdgldcbaa
open Go.RowKit


attribute [local go_sem ↓] Go.wp_at_zero Go.wp_at_succ

/-- Bytes handed in. -/
def BytesIn (w : World) (a : Option Addr) (n : Nat) : Prop := ∀ i, i < n → ∃ bl off x, a = some ⟨bl, off, none⟩ ∧ 0 ≤ x ∧ x ≤ 255 ∧ w.cell? ⟨bl, off + i, none⟩ = some (.int .u8 x)
theorem BytesIn.go {w w' : World} {a : Option Addr} {n : Nat} (h : BytesIn w a n) (hb : Below w.heap.size w w') : BytesIn w' a n := by
  intro i hi
  obtain ⟨bl, off, x, ha, h0, h1, hc⟩ := h i hi
  exact ⟨bl, off, x, ha, h0, h1, (hb.cell (World.block_lt_of_cell? w _ hc)).trans hc⟩
theorem cu_start {w : World} {a : Option Addr} {n cp : Nat} (t : TypeId) (h : BytesIn w a n) : Cu (w.alloc (.cells #[.slice a n cp, .int .i64 0, .int .u64 0] t)) w.heap.size a n cp 0 := by
  refine ⟨?_, ⟨0, 0, Nat.le_refl _, Int.le_refl _, by decide, ?_, ?_⟩, ?_, ?_, ?_⟩
  · rw [World.cell?_alloc_at _ _ _ _ rfl]; rfl
  · rw [World.cell?_alloc_at _ _ _ _ rfl]; rfl
  · rw [World.cell?_alloc_at _ _ _ _ rfl]; rfl
  · go_simp
  · go_simp
  · intro i hi
    obtain ⟨bl, off, x, ha, h0, h1, hc⟩ := h i hi
    have hl := World.block_lt_of_cell? w _ hc
    exact ⟨bl, off, x, ha, by dsimp only at hl; omega, h0, h1, (World.cell?_alloc_past _ _ _ hl).trans hc⟩
theorem below_gb {B : Nat} {w W W' : World} {b : Nat} (h : Below B w W) (hg : W.grownBy W' (some b)) (hB : B ≤ W.heap.size) (hb : B ≤ b) : Below B w W' := h.grown hg hB (le_some hb)

set_option maxHeartbeats 4000000 in
theorem leastDistC_any (b n cp k : Nat) (a : Option Addr) (hk : k ≤ 800000000) {w : World} (hc : Cu w b a n cp k) :
    Calls Try.prog 83 #[.pointer (some ⟨b, 0, none⟩)] w fun e w' => ∃ r : Int, e = .returned (.int .i64 r) ∧ Cu w' b a n cp (k + 6) ∧ w.grownBy w' (some b) := by
  have hbl := hc.lt
  go_enter Try.func83, Try.ntmps83
  go_wp2_with fail
  refine (pick_any 81 (by omega) b n cp (k) a (by omega) hc).mono ?_
  rintro e w1 ⟨r1, rfl, p10, p11, hc1, hg1⟩
  have hl1 := hc1.lt
  go_wp2_with fail
  refine (amongL_any w1.heap.size 3 [80, 81, -1] (by simp) (by simp) b n cp (k + 2) a (by omega) (hc1.made _) (ls_alloc [80, 81, -1] _) (by omega)).mono ?_
  rintro e w2 ⟨r2, rfl, p2, hc2, hg2⟩
  have hl2 := hc2.lt
  go_wp2_with fail
  refine (amongL_any w2.heap.size 7 [0, 1, 8, 16, 24, r1, r2] (by simp) (by simp) b n cp (k + 2 + 2) a (by omega) (hc2.made _) (ls_alloc [0, 1, 8, 16, 24, r1, r2] _) (by omega)).mono ?_
  rintro e w3 ⟨r3, rfl, p3, hc3, hg3⟩
  have hl3 := hc3.lt
  have P := Lib.hid (gb_trans hg1 (gb_trans (gb_trans (gb_made (gb_refl _ _) _) hg2) (gb_trans (gb_made (gb_refl _ _) _) hg3)))
  have HC := Lib.hid hc3
  clear hc hc1 hc2 hc3 hg1 hg2 hg3
  go_wp2
  go_ret
  exact ⟨_, rfl, HC.out.more (by omega), P.out⟩

set_option maxRecDepth 100000 in
set_option maxHeartbeats 4000000 in
theorem drawLA_any (a : Option Addr) (n' cp : Nat) {w : World} (hB : BytesIn w a n') :
    Calls Try.prog 49 #[.slice a n' cp] w fun e w' => ∃ x1 y1 x2 y2 n x3 y3 x4 y4 m : Int, e = .returned (.tuple #[.agg #[.int .i64 x1, .int .i64 y1, .int .i64 x2, .int .i64 y2, .int .i64 n], .agg #[.int .i64 x3, .int .i64 y3, .int .i64 x4, .int .i64 y4, .int .i64 m]]) ∧ (0 ≤ n ∧ n ≤ 65) ∧ Below w.heap.size w w' := by
  have hcu := cu_start (w := (w.alloc (.cells #[.int .i64 0, .int .i64 0, .int .i64 0, .int .i64 0, .int .i64 0] 30)).alloc (.cells #[.int .i64 0, .int .i64 0, .int .i64 0, .int .i64 0, .int .i64 0] 30)) 95 ((hB.go ((Below.refl _ _).alloc (Nat.le_refl _) _)).go ((Below.refl _ _).alloc (Nat.le_refl _) _)) (cp := cp)
  rw [show (((w.alloc (.cells #[.int .i64 0, .int .i64 0, .int .i64 0, .int .i64 0, .int .i64 0] 30)).alloc (.cells #[.int .i64 0, .int .i64 0, .int .i64 0, .int .i64 0, .int .i64 0] 30)).heap.size) = w.heap.size + 1 + 1 by simp] at hcu
  go_enter Try.func49, Try.ntmps49
  go_wp2_with fail
  with_reducible refine (togetherC_any (w.heap.size + 1 + 1) n' cp 0 a (by omega) hcu).mono ?_
  rintro e w1 ⟨x1, y1, x2, y2, n, x3, y3, x4, y4, m, rfl, hn, hc1, hg1⟩
  have T2 := row_gb (((mF_made w 0 0 0 0 0 30).alloc (.cells #[.int .i64 0, .int .i64 0, .int .i64 0, .int .i64 0, .int .i64 0] 30)).alloc (.cells #[.slice a n' cp, .int .i64 0, .int .u64 0] 95)) hg1 (by omega)
  have M3 : ((w.alloc (.cells #[.int .i64 0, .int .i64 0, .int .i64 0, .int .i64 0, .int .i64 0] 30)).alloc (.cells #[.int .i64 0, .int .i64 0, .int .i64 0, .int .i64 0, .int .i64 0] 30)).rowIs (w.heap.size + 1) 30 5 (mF 0 0 0 0 0) := by have h := mF_made (w.alloc (.cells #[.int .i64 0, .int .i64 0, .int .i64 0, .int .i64 0, .int .i64 0] 30)) 0 0 0 0 0 30; rw [show (w.alloc (.cells #[.int .i64 0, .int .i64 0, .int .i64 0, .int .i64 0, .int .i64 0] 30)).heap.size = w.heap.size + 1 by simp] at h; exact h
  have T3' := row_gb (M3.alloc (.cells #[.slice a n' cp, .int .i64 0, .int .u64 0] 95)) hg1 (by omega)
  have hsz := hg1.size
  simp at hsz
  have HB1 : Below w.heap.size w w1 := below_gb ((((Below.refl _ w).alloc (Nat.le_refl _) _).alloc (by first | omega | (simp; done) | (simp; omega)) _).alloc (by first | omega | (simp; done) | (simp; omega)) _) hg1 (by first | omega | (simp; done) | (simp; omega)) (by first | omega | (simp; done) | (simp; omega))
  clear M3
  obtain ⟨g3, hg3'⟩ : ∃ g, g = w.heap.size + 1 := ⟨_, rfl⟩
  obtain ⟨g2, hg2'⟩ : ∃ g, g = w.heap.size := ⟨_, rfl⟩
  have ne10 : g2 ≠ g3 := by omega
  have ne11 : g3 ≠ g2 := by omega
  have nn10 : ¬ g2 = g3 := by omega
  have nn11 : ¬ g3 = g2 := by omega
  have gl2 : w.heap.size ≤ g2 := by omega
  have gl3 : w.heap.size ≤ g3 := by omega
  rw [← hg2'] at T2
  rw [← hg3'] at T3'
  clear hcu hg1 hc1
  rw [← hg3', ← hg2']
  obtain ⟨c_0, c_1, c_2, c_3, c_4, c_f0, c_f1, c_f2, c_f3, c_f4⟩ := mF_cells T2
  obtain ⟨d_0, d_1, d_2, d_3, d_4, d_f0, d_f1, d_f2, d_f3, d_f4⟩ := mF_cells T3'
  have HBW := HB1
  have TC := T2
  have TD := T3'
  clear T2 T3' HB1
  have hsz2 : g2 < w1.heap.size := by omega
  have hsz3 : g3 < w1.heap.size := by omega
  have hszw : w.heap.size ≤ w1.heap.size := by omega
  clear hg2' hg3'
  go_wp2
  have h2 : w1.grownBy (((((w1.setCell ⟨g2, 0, none⟩ (.int .i64 (x1))).setCell ⟨g2, 1, none⟩ (.int .i64 (y1))).setCell ⟨g2, 2, none⟩ (.int .i64 (x2))).setCell ⟨g2, 3, none⟩ (.int .i64 (y2))).setCell ⟨g2, 4, none⟩ (.int .i64 (n))) (some g2) := (gb_trans (gb_trans (gb_trans (gb_trans (gb_set _ _ _ _) (gb_set _ _ _ _)) (gb_set _ _ _ _)) (gb_set _ _ _ _)) (gb_set _ _ _ _))
  have h3 : (((((w1.setCell ⟨g2, 0, none⟩ (.int .i64 (x1))).setCell ⟨g2, 1, none⟩ (.int .i64 (y1))).setCell ⟨g2, 2, none⟩ (.int .i64 (x2))).setCell ⟨g2, 3, none⟩ (.int .i64 (y2))).setCell ⟨g2, 4, none⟩ (.int .i64 (n))).grownBy ((((((((((w1.setCell ⟨g2, 0, none⟩ (.int .i64 (x1))).setCell ⟨g2, 1, none⟩ (.int .i64 (y1))).setCell ⟨g2, 2, none⟩ (.int .i64 (x2))).setCell ⟨g2, 3, none⟩ (.int .i64 (y2))).setCell ⟨g2, 4, none⟩ (.int .i64 (n))).setCell ⟨g3, 0, none⟩ (.int .i64 (x3))).setCell ⟨g3, 1, none⟩ (.int .i64 (y3))).setCell ⟨g3, 2, none⟩ (.int .i64 (x4))).setCell ⟨g3, 3, none⟩ (.int .i64 (y4))).setCell ⟨g3, 4, none⟩ (.int .i64 (m))) (some g3) := (gb_trans (gb_trans (gb_trans (gb_trans (gb_set _ _ _ _) (gb_set _ _ _ _)) (gb_set _ _ _ _)) (gb_set _ _ _ _)) (gb_set _ _ _ _))
  have hz2 := h2.size
  have P1 := below_gb (below_gb HBW h2 (by omega) (by omega)) h3 (by omega) (by omega)
  have E2 : ((((((((((w1.setCell ⟨g2, 0, none⟩ (.int .i64 (x1))).setCell ⟨g2, 1, none⟩ (.int .i64 (y1))).setCell ⟨g2, 2, none⟩ (.int .i64 (x2))).setCell ⟨g2, 3, none⟩ (.int .i64 (y2))).setCell ⟨g2, 4, none⟩ (.int .i64 (n))).setCell ⟨g3, 0, none⟩ (.int .i64 (x3))).setCell ⟨g3, 1, none⟩ (.int .i64 (y3))).setCell ⟨g3, 2, none⟩ (.int .i64 (x4))).setCell ⟨g3, 3, none⟩ (.int .i64 (y4))).setCell ⟨g3, 4, none⟩ (.int .i64 (m))).rowIs g2 30 5 (mF x1 y1 x2 y2 n) := (((((((mF_set4 (n) (mF_set3 (y2) (mF_set2 (x2) (mF_set1 (y1) (mF_set0 (x1) TC))))).setOther (a := ⟨g3, 0, none⟩) ne10 (.int .i64 (x3))).setOther (a := ⟨g3, 1, none⟩) ne10 (.int .i64 (y3))).setOther (a := ⟨g3, 2, none⟩) ne10 (.int .i64 (x4))).setOther (a := ⟨g3, 3, none⟩) ne10 (.int .i64 (y4))).setOther (a := ⟨g3, 4, none⟩) ne10 (.int .i64 (m))))
  have E3 : ((((((((((w1.setCell ⟨g2, 0, none⟩ (.int .i64 (x1))).setCell ⟨g2, 1, none⟩ (.int .i64 (y1))).setCell ⟨g2, 2, none⟩ (.int .i64 (x2))).setCell ⟨g2, 3, none⟩ (.int .i64 (y2))).setCell ⟨g2, 4, none⟩ (.int .i64 (n))).setCell ⟨g3, 0, none⟩ (.int .i64 (x3))).setCell ⟨g3, 1, none⟩ (.int .i64 (y3))).setCell ⟨g3, 2, none⟩ (.int .i64 (x4))).setCell ⟨g3, 3, none⟩ (.int .i64 (y4))).setCell ⟨g3, 4, none⟩ (.int .i64 (m))).rowIs g3 30 5 (mF x3 y3 x4 y4 m) := ((mF_set4 (m) (mF_set3 (y4) (mF_set2 (x4) (mF_set1 (y3) (mF_set0 (x3) (((((TD.setOther (a := ⟨g2, 0, none⟩) ne11 (.int .i64 (x1))).setOther (a := ⟨g2, 1, none⟩) ne11 (.int .i64 (y1))).setOther (a := ⟨g2, 2, none⟩) ne11 (.int .i64 (x2))).setOther (a := ⟨g2, 3, none⟩) ne11 (.int .i64 (y2))).setOther (a := ⟨g2, 4, none⟩) ne11 (.int .i64 (n)))))))))
  clear h2 h3 hz2
  obtain ⟨WF, hWF⟩ : ∃ z, z = ((((((((((w1.setCell ⟨g2, 0, none⟩ (.int .i64 (x1))).setCell ⟨g2, 1, none⟩ (.int .i64 (y1))).setCell ⟨g2, 2, none⟩ (.int .i64 (x2))).setCell ⟨g2, 3, none⟩ (.int .i64 (y2))).setCell ⟨g2, 4, none⟩ (.int .i64 (n))).setCell ⟨g3, 0, none⟩ (.int .i64 (x3))).setCell ⟨g3, 1, none⟩ (.int .i64 (y3))).setCell ⟨g3, 2, none⟩ (.int .i64 (x4))).setCell ⟨g3, 3, none⟩ (.int .i64 (y4))).setCell ⟨g3, 4, none⟩ (.int .i64 (m))) := ⟨_, rfl⟩
  rw [← hWF] at E2 E3 P1 ⊢
  clear hWF
  obtain ⟨u_0, u_1, u_2, u_3, u_4, u_f0, u_f1, u_f2, u_f3, u_f4⟩ := mF_cells E2
  obtain ⟨v_0, v_1, v_2, v_3, v_4, v_f0, v_f1, v_f2, v_f3, v_f4⟩ := mF_cells E3
  clear E2 E3
  exact bodyPost_ret (v := .tuple #[.agg #[.int .i64 x1, .int .i64 y1, .int .i64 x2, .int .i64 y2, .int .i64 n], .agg #[.int .i64 x3, .int .i64 y3, .int .i64 x4, .int .i64 y4, .int .i64 m]]) (by simp [results, Try.results49, go_sem, u_0, u_1, u_2, u_3, u_4, v_0, v_1, v_2, v_3, v_4]) rfl ⟨x1, y1, x2, y2, n, x3, y3, x4, y4, m, rfl, hn, P1⟩

end Go.Proofs.Ytjojjmmdgldcbaa
