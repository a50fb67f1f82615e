/- Drawn moves. No conditions but those written in each theorem. -/
import Derived.Test.YtjojjmmdgldcbaaCurB
import Derived.Test.YtjojjmmdgldcbaaUtil
import Derived.Deep.RegionHeld3
import Derived.Deep.DrawnRows
import Derived.IntWalk
import Derived.Laws.AppendOwn
import Derived.Deep.DeepCutAuto
namespace Go.Proofs.Ytjojjmmdgldcbaa
open Go.RowKit


attribute [local go_sem ↓] Go.wp_at_zero Go.wp_at_succ

theorem Cu.drewC {w : World} {b n cp k : Nat} {a : Option Addr} (h : Cu w b a n cp k) : Cu w.drew b a n cp k := ⟨h.c0, h.cs, h.f1, h.f2, h.by_⟩
theorem gb_drewC {w w' : World} {r : Option Nat} (h : w.grownBy w' r) : w.grownBy w'.drew r := ⟨h.os, h.tape, h.output, h.size, h.block⟩
theorem le_some {g B : Nat} (h : B ≤ g) : ∀ q, some g = some q → B ≤ q := fun q e => by have := Option.some.inj e; omega

set_option maxHeartbeats 4000000 in
theorem anySpotC_any (b n cp k : Nat) (a : Option Addr) (hk : k ≤ 800000000) {w : World} (hc : Cu w b a n cp k) :
    Calls Try.prog 106 #[.pointer (some ⟨b, 0, none⟩)] w fun e w' => ∃ x y : Int, e = .returned (.agg #[.int .i64 x, .int .i64 y]) ∧ Cu w' b a n cp (k + 20) ∧ w.grownBy w' (some b) := by
  have hbl := hc.lt
  have HC0 := Lib.hid hc
  go_enter Try.func106, Try.ntmps106
  go_wp2_with fail
  refine (spotC_any b n cp k a (by omega) (hc.made _)).mono ?_
  rintro e w1 ⟨x, y, rfl, hc1, hg1⟩
  have hl1 := hc1.lt
  have hs1 := hg1.size
  simp at hs1
  go_wp2_with fail
  refine (pick_any 30 (by omega) b n cp (k + 12) a (by omega) (hc1.made _)).mono ?_
  rintro e w2 ⟨r2, rfl, p20, p21, hc2, hg2⟩
  have hl2 := hc2.lt
  have hs2 := hg2.size
  simp at hs2
  -- both boxes: the result's at w.heap.size, the spot's at w1.heap.size
  have G : (w.alloc (.cells #[.int .i64 0, .int .i64 0] 28)).grownBy w2 (some b) := gb_trans (gb_made hg1 _) hg2
  have z0 := gb_cell (g := w.heap.size) (o := 0) G (by omega) (show _ = some (.int .i64 0) by go_simp)
  have z1 := gb_cell (g := w.heap.size) (o := 1) G (by omega) (show _ = some (.int .i64 0) by go_simp)
  have y0 := gb_froz (g := w.heap.size) (o := 0) G (by simp) (by omega) (show _ = false by go_simp)
  have y1 := gb_froz (g := w.heap.size) (o := 1) G (by simp) (by omega) (show _ = false by go_simp)
  have x0 := gb_cell (g := w1.heap.size) (o := 0) hg2 (by omega) (show _ = some (.int .i64 x) by go_simp)
  have x1 := gb_cell (g := w1.heap.size) (o := 1) hg2 (by omega) (show _ = some (.int .i64 y) by go_simp)
  have u0 := gb_froz (g := w1.heap.size) (o := 0) hg2 (by simp) (by omega) (show _ = false by go_simp)
  have u1 := gb_froz (g := w1.heap.size) (o := 1) hg2 (by simp) (by omega) (show _ = false by go_simp)
  have n1 : ¬ w.heap.size = w1.heap.size := by omega
  have n2 : ¬ w1.heap.size = w.heap.size := by omega
  have GW : w.grownBy w2 (some b) := gb_trans (gb_made (gb_refl _ _) _) G
  have HGW := Lib.hid GW
  have HC2 := Lib.hid hc2
  have hq := le_some (Nat.le_refl w.heap.size)
  have hq1 := le_some (show w.heap.size ≤ w1.heap.size by omega)
  have HQ := Lib.hid hq
  have HQ1 := Lib.hid hq1
  clear hg1 hg2 hc hc1 hc2 G GW hq hq1
  by_cases q0 : r2 = 0
  · subst q0
    go_wp2_with fail
    refine (amongL_any w2.heap.size 2 [-1, 1281] (by simp) (by simp) b n cp (k + 12 + 2) a (by omega) (HC2.out.made _) (ls_alloc [-1, 1281] _) (by omega)).mono ?_
    rintro e w3 ⟨r3, rfl, p3, hc3, hg3⟩
    have gw := gb_trans (gb_made (gb_refl w2 (some b)) (.cells #[.int .i64 (-1), .int .i64 1281] 3)) hg3
    replace z0 := gb_cell (g := w.heap.size) (o := 0) gw (by omega) z0
    replace z1 := gb_cell (g := w.heap.size) (o := 1) gw (by omega) z1
    replace y0 := gb_froz (g := w.heap.size) (o := 0) gw (by omega) (by omega) y0
    replace y1 := gb_froz (g := w.heap.size) (o := 1) gw (by omega) (by omega) y1
    replace x0 := gb_cell (g := w1.heap.size) (o := 0) gw (by omega) x0
    replace x1 := gb_cell (g := w1.heap.size) (o := 1) gw (by omega) x1
    replace u0 := gb_froz (g := w1.heap.size) (o := 0) gw (by omega) (by omega) u0
    replace u1 := gb_froz (g := w1.heap.size) (o := 1) gw (by omega) (by omega) u1
    have HGW3 := Lib.hid (gb_trans HGW.out gw)
    have HC3 := Lib.hid hc3
    clear hg3 gw hc3
    go_wp2
    have hs0 : w3.grownBy (w3.setCell ⟨w1.heap.size, 0, none⟩ (.int .i64 r3)) (some w1.heap.size) := gb_set _ _ _ _
    have hs : (w3.setCell ⟨w1.heap.size, 0, none⟩ (.int .i64 r3)).grownBy (((w3.setCell ⟨w1.heap.size, 0, none⟩ (.int .i64 r3)).setCell ⟨w.heap.size, 0, none⟩ (.int .i64 r3)).setCell ⟨w.heap.size, 1, none⟩ (.int .i64 y)) (some w.heap.size) := gb_trans (gb_set _ _ _ _) (gb_set _ _ _ _)
    have P1 := Lib.hid (HC0.out.awayB (HC0.out.awayB HC3.out hs0 HQ1.out) hs HQ.out)
    have P2 := Lib.hid (gb_ownB (gb_ownB HGW3.out hs0 HQ1.out) hs HQ.out)
    exact bodyPost_ret (v := .agg #[.int .i64 r3, .int .i64 y]) (by simp [results, Try.results106, go_sem, *]) rfl ⟨r3, y, rfl, P1.out.more (by omega), P2.out⟩
  by_cases q1 : r2 = 1
  · subst q1
    go_wp2_with fail
    refine (amongL_any w2.heap.size 2 [-1, 673] (by simp) (by simp) b n cp (k + 12 + 2) a (by omega) (HC2.out.made _) (ls_alloc [-1, 673] _) (by omega)).mono ?_
    rintro e w3 ⟨r3, rfl, p3, hc3, hg3⟩
    have gw := gb_trans (gb_made (gb_refl w2 (some b)) (.cells #[.int .i64 (-1), .int .i64 673] 3)) hg3
    replace z0 := gb_cell (g := w.heap.size) (o := 0) gw (by omega) z0
    replace z1 := gb_cell (g := w.heap.size) (o := 1) gw (by omega) z1
    replace y0 := gb_froz (g := w.heap.size) (o := 0) gw (by omega) (by omega) y0
    replace y1 := gb_froz (g := w.heap.size) (o := 1) gw (by omega) (by omega) y1
    replace x0 := gb_cell (g := w1.heap.size) (o := 0) gw (by omega) x0
    replace x1 := gb_cell (g := w1.heap.size) (o := 1) gw (by omega) x1
    replace u0 := gb_froz (g := w1.heap.size) (o := 0) gw (by omega) (by omega) u0
    replace u1 := gb_froz (g := w1.heap.size) (o := 1) gw (by omega) (by omega) u1
    have HGW3 := Lib.hid (gb_trans HGW.out gw)
    have HC3 := Lib.hid hc3
    clear hg3 gw hc3
    go_wp2
    have hs0 : w3.grownBy (w3.setCell ⟨w1.heap.size, 1, none⟩ (.int .i64 r3)) (some w1.heap.size) := gb_set _ _ _ _
    have hs : (w3.setCell ⟨w1.heap.size, 1, none⟩ (.int .i64 r3)).grownBy (((w3.setCell ⟨w1.heap.size, 1, none⟩ (.int .i64 r3)).setCell ⟨w.heap.size, 0, none⟩ (.int .i64 x)).setCell ⟨w.heap.size, 1, none⟩ (.int .i64 r3)) (some w.heap.size) := gb_trans (gb_set _ _ _ _) (gb_set _ _ _ _)
    have P1 := Lib.hid (HC0.out.awayB (HC0.out.awayB HC3.out hs0 HQ1.out) hs HQ.out)
    have P2 := Lib.hid (gb_ownB (gb_ownB HGW3.out hs0 HQ1.out) hs HQ.out)
    exact bodyPost_ret (v := .agg #[.int .i64 x, .int .i64 r3]) (by simp [results, Try.results106, go_sem, *]) rfl ⟨x, r3, rfl, P1.out.more (by omega), P2.out⟩
  · have e0 : (r2 == 0) = false := by simpa using q0
    have e1 : (r2 == 1) = false := by simpa using q1
    go_wp2
    have hs : w2.grownBy ((w2.setCell ⟨w.heap.size, 0, none⟩ (.int .i64 x)).setCell ⟨w.heap.size, 1, none⟩ (.int .i64 y)) (some w.heap.size) := gb_trans (gb_set _ _ _ _) (gb_set _ _ _ _)
    have P1 := Lib.hid (HC0.out.awayB HC2.out hs HQ.out)
    have P2 := Lib.hid (gb_ownB HGW.out hs HQ.out)
    exact bodyPost_ret (v := .agg #[.int .i64 x, .int .i64 y]) (by simp [results, Try.results106, go_sem, *]) rfl ⟨x, y, rfl, P1.out.more (by omega), P2.out⟩

end Go.Proofs.Ytjojjmmdgldcbaa
