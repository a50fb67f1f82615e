/- The closest two moves of a list: the specification's side. Conditions: those written in each theorem. -/
import Derived.Test.YtjojjmmdgldcbaaApPairs
import Derived.Test.YtjojjmmdgldcbaaApFr
import Derived.Deep.RegionHeld3
import Derived.Deep.DrawnRows
import Derived.IntWalk
import Derived.StillTailTactics
import Derived.Deep.DeepCutAuto
import Derived.Deep.LoopGhost
import Derived.Lib.QuietBelow
namespace Go.Proofs.Ytjojjmmdgldcbaa
open Go.RowKit Go.Sort


attribute [local go_sem ↓] Go.wp_at_zero Go.wp_at_succ

set_option maxHeartbeats 2000000 in
theorem less_whole (a b c d : Int) (a0 : 0 ≤ a) (a1 : a ≤ 1000000000000000) (b0 : 0 < b) (b1 : b ≤ 10000000) (c0 : 0 ≤ c) (c1 : c ≤ 1000000000000000) (d0 : 0 < d) (d1 : d ≤ 10000000) (hne : ¬ a / b = c / d) (w : World) :
    Calls Try.prog 98 #[.int .i64 a, .int .i64 b, .int .i64 c, .int .i64 d] w fun e w' => e = .returned (.bool (fLt a b c d)) ∧ Below w.heap.size w w' := by
  obtain ⟨q1, q2, q3, q4, q5, q6, q7⟩ := nadd
  have hf := fLt_parts a0 b0 c0 d0
  rw [hf]
  obtain ⟨u, x, hu, hx, u1, u2, u3, u4, u5, u6, u7, u8, x0, x1⟩ := quo_facts a0 a1 b0
  obtain ⟨v, y, hv, hy, v1, v2, v3, v4, v5, v6, v7, v8, y0, y1⟩ := quo_facts c0 c1 d0
  rw [← hu, ← hv] at hne
  rw [← hu, ← hv, ← hx, ← hy]
  rw [if_pos hne]
  obtain ⟨t, ht⟩ : ∃ t, decide (u < v) = t := ⟨_, rfl⟩
  rw [ht]
  have z1 : (u == v) = false := by simpa using hne
  have z2 : (u != v) = true := by simpa using hne
  clear hf hu hv hx hy x0 x1 y0 y1 a0 a1 b0 b1 c0 c1 d0 d1
  all_goals
    go_enter Try.func98, Try.ntmps98
    go_wp2
    go_quiet (fail)
    go_wp2
    go_quiet (fail)
    go_wp2
    first | exact bodyPost_ret (v := .bool t) (by simp [results, Try.results98, go_sem, *]) rfl ⟨rfl, (by repeat (first | exact Below.refl _ _ | assumption | refine Below.drew ?_ | refine below_drewN ?_ _ | refine Below.alloc ?_ (by first | omega | (simp; done) | (simp; omega)) _ | refine Below.setCell ?_ (by first | omega | (simp; done) | (simp; omega)) _ | refine Below.trans ?_ (Below.mono (by assumption) (by first | omega | (simp; done) | (simp; omega)))))⟩

set_option maxHeartbeats 2000000 in
theorem less_rest (a b c d : Int) (a0 : 0 ≤ a) (a1 : a ≤ 1000000000000000) (b0 : 0 < b) (b1 : b ≤ 10000000) (c0 : 0 ≤ c) (c1 : c ≤ 1000000000000000) (d0 : 0 < d) (d1 : d ≤ 10000000) (hne : a / b = c / d) (w : World) :
    Calls Try.prog 98 #[.int .i64 a, .int .i64 b, .int .i64 c, .int .i64 d] w fun e w' => e = .returned (.bool (fLt a b c d)) ∧ Below w.heap.size w w' := by
  obtain ⟨q1, q2, q3, q4, q5, q6, q7⟩ := nadd
  have hf := fLt_parts a0 b0 c0 d0
  rw [hf]
  obtain ⟨u, x, hu, hx, u1, u2, u3, u4, u5, u6, u7, u8, x0, x1⟩ := quo_facts a0 a1 b0
  obtain ⟨v, y, hv, hy, v1, v2, v3, v4, v5, v6, v7, v8, y0, y1⟩ := quo_facts c0 c1 d0
  rw [← hu, ← hv] at hne
  rw [← hu, ← hv, ← hx, ← hy]
  rw [if_neg (by simpa using hne)]
  have p1 := mul_bd (a := x) (b := d) (m := 10000000) (n := 10000000) (by omega) (by omega) (by omega) (by omega)
  have p2 := mul_bd (a := y) (b := b) (m := 10000000) (n := 10000000) (by omega) (by omega) (by omega) (by omega)
  obtain ⟨g, hg⟩ : ∃ g, g = x * d := ⟨_, rfl⟩
  obtain ⟨k, hk⟩ : ∃ k, k = y * b := ⟨_, rfl⟩
  have w1' : IntKind.i64.wrap (x * d) = g := by rw [hg]; exact IntWalk.i64_in _ (by omega)
  have w2' : IntKind.i64.wrap (y * b) = k := by rw [hk]; exact IntWalk.i64_in _ (by omega)
  rw [← hg, ← hk]
  obtain ⟨t, ht⟩ : ∃ t, decide (g < k) = t := ⟨_, rfl⟩
  rw [ht]
  subst hne
  clear hf hu hv hx hy x0 x1 y0 y1 a0 a1 b0 b1 c0 c1 d0 d1 p1 p2 hg hk
  all_goals
    go_enter Try.func98, Try.ntmps98
    go_wp2
    go_quiet (fail)
    go_wp2
    go_quiet (fail)
    go_wp2
    first | exact bodyPost_ret (v := .bool t) (by simp [results, Try.results98, go_sem, *]) rfl ⟨rfl, (by repeat (first | exact Below.refl _ _ | assumption | refine Below.drew ?_ | refine below_drewN ?_ _ | refine Below.alloc ?_ (by first | omega | (simp; done) | (simp; omega)) _ | refine Below.setCell ?_ (by first | omega | (simp; done) | (simp; omega)) _ | refine Below.trans ?_ (Below.mono (by assumption) (by first | omega | (simp; done) | (simp; omega)))))⟩

theorem less_any (a b c d : Int) (a0 : 0 ≤ a) (a1 : a ≤ 1000000000000000) (b0 : 0 < b) (b1 : b ≤ 10000000) (c0 : 0 ≤ c) (c1 : c ≤ 1000000000000000) (d0 : 0 < d) (d1 : d ≤ 10000000) (w : World) :
    Calls Try.prog 98 #[.int .i64 a, .int .i64 b, .int .i64 c, .int .i64 d] w fun e w' => e = .returned (.bool (fLt a b c d)) ∧ Below w.heap.size w w' := by
  by_cases hne : a / b = c / d
  · exact less_rest a b c d a0 a1 b0 b1 c0 c1 d0 d1 hne w
  · exact less_whole a b c d a0 a1 b0 b1 c0 c1 d0 d1 hne w
/-- apLeast and apLess at moves of the list. -/
theorem apLeast_at {l : List (Int × Int × Int × Int × Int)} {i k : Nat} (h : gt2 l i k = true) (w : World) :
    Calls Try.prog 62 #[.agg #[.int .i64 (mc l i 0), .int .i64 (mc l i 1), .int .i64 (mc l i 2), .int .i64 (mc l i 3), .int .i64 (mc l i 4)], .agg #[.int .i64 (mc l k 0), .int .i64 (mc l k 1), .int .i64 (mc l k 2), .int .i64 (mc l k 3), .int .i64 (mc l k 4)]] w fun e w' => e = .returned (.tuple #[.int .i64 (al2 l i k), .int .i64 (ad2 l i k)]) ∧ Below w.heap.size w w' := by
  obtain ⟨hw, v1, v2, v3, v4⟩ := gt2_way h
  exact apLeast_any (mc l i 0) (mc l i 1) (mc l i 2) (mc l i 3) (mc l i 4) (mc l k 0) (mc l k 1) (mc l k 2) (mc l k 3) (mc l k 4) _ _ _ _ v1 v2 v3 v4 hw w
theorem less_at {l : List (Int × Int × Int × Int × Int)} {i k f s : Nat} (h1 : gt2 l i k = true) (h2 : gt2 l f s = true) (w : World) :
    Calls Try.prog 98 #[.int .i64 (al2 l i k), .int .i64 (ad2 l i k), .int .i64 (al2 l f s), .int .i64 (ad2 l f s)] w fun e w' => e = .returned (.bool (pLt l (i, k) (f, s))) ∧ Below w.heap.size w w' := by
  obtain ⟨⟨a0, a1⟩, b0, b1, _⟩ := al2_bd h1
  obtain ⟨⟨c0, c1⟩, d0, d1, _⟩ := al2_bd h2
  rw [← pLt_low h1 h2]
  exact less_any _ _ _ _ a0 (by omega) b0 (by omega) c0 (by omega) d0 (by omega) w

set_option maxRecDepth 100000 in
set_option maxHeartbeats 8000000 in
theorem apClosest_any (a : Option Addr) (cap : Nat) (l : List (Int × Int × Int × Int × Int)) (hok : mvsOk l = true) {w : World} (ha : MovesAt w a l) :
    Calls Try.prog 77 #[.slice a l.length cap] w fun e w' => e = .returned (.tuple #[.int .i64 ((clo l).1 : Int), .int .i64 ((clo l).2 : Int)]) ∧ Below w.heap.size w w' := by
  obtain ⟨n2, n12, hall⟩ := mvsOk_iff hok
  have HA := Lib.hid ha
  have HALL := Lib.hid hall
  have hclo : clo l = bst l (pall l.length l.length) := rfl
  have HCLO := Lib.hid hclo
  clear ha hall hclo hok
  obtain ⟨b, off, rfl, hb0, c0, c1, c2, c3, c4, d0, d1, d2, d3, d4⟩ := HA.out.one (by omega)
  have HL := Lib.hid (fun W => apLeast_at (HALL.out 0 1 (by omega) (by omega)) W)
  have j0 : 0 < l.length := by omega
  have j1 : 1 < l.length := by omega
  have j2 : (1 : Int) < (l.length : Int) := by omega
  go_enter Try.func77, Try.ntmps77
  go_upto_region 2 with fail
  have rgc0 := fun d os => cell_regrown c0 d os
  have rgc1 := fun d os => cell_regrown c1 d os
  have rgc2 := fun d os => cell_regrown c2 d os
  have rgc3 := fun d os => cell_regrown c3 d os
  have rgc4 := fun d os => cell_regrown c4 d os
  have rgd0 := fun d os => cell_regrown d0 d os
  have rgd1 := fun d os => cell_regrown d1 d os
  have rgd2 := fun d os => cell_regrown d2 d os
  have rgd3 := fun d os => cell_regrown d3 d os
  have rgd4 := fun d os => cell_regrown d4 d os
  refine wp_region_quiet_below (by kernel_rfl) (by kernel_rfl) ?_
  repeat (quiet_step (first | (with_reducible exact Calls.regrown_of (HL.out _))))
  refine wpQuiet_nil ?_
  intro _ hw'
  obtain ⟨⟨dq, osq⟩, hw''⟩ := hw'
  subst hw''
  have hq := below_regrown w dq osq
  generalize grow (redrawn w dq) osq = W2 at hq ⊢
  clear rgc0 rgc1 rgc2 rgc3 rgc4 rgd0 rgd1 rgd2 rgd3 rgd4 c0 c1 c2 c3 c4 d0 d1 d2 d3 d4 HL hb0
  have hB2 := hq
  go_wp2
  go_loopw [4, 5, 6, 7, 25] (fun f s t b i wr => ∃ (k F S : Nat), k ≤ l.length ∧ F < l.length ∧ S < l.length ∧ f = .int .i64 (F : Int) ∧ s = .int .i64 (S : Int) ∧ t = .int .i64 (al2 l F S) ∧ b = .int .i64 (ad2 l F S) ∧ i = .int .i64 (k : Int) ∧ Hid ((F, S) = bst l (pall l.length k)) ∧ Below w.heap.size w wr) (fun _ _ _ _ i _ => l.length - (intOf i).toNat)
  case atStart => exact ⟨0, 0, 1, Nat.zero_le _, j0, j1, rfl, rfl, rfl, rfl, rfl, Lib.hid rfl, hB2⟩
  case round =>
    clear hB2 hq
    obtain ⟨k, F, S, hk, hF, hS, rfl, rfl, rfl, rfl, rfl, HBS, hbr⟩ := hrel
    obtain ⟨wo, rfl⟩ : ∃ wo, wo = wr := ⟨_, rfl⟩
    have hsr := hbr.size
    by_cases hlt : k < l.length
    · obtain ⟨b', off', hbb, c0, c1, c2, c3, c4⟩ := (HA.out.below hbr) k hlt
      simp only [Option.some.injEq, Addr.mk.injEq] at hbb
      obtain ⟨hb1', hb2', _⟩ := hbb
      subst hb1' hb2'
      have i0 : (0 : Int) ≤ (k : Int) := by omega
      have i1 : (k : Int) < (l.length : Int) := by omega
      have i2 : k < l.length := hlt
      have i3 : IntKind.i64.wrap ((k : Int) + 1) = (k : Int) + 1 := IntWalk.i64_in _ (by omega)
      have HBS0 : Hid ((F, S) = bst l (pall l.length k ++ prow k (k + 1))) := Lib.hid (by rw [prow_le (Nat.le_refl _), List.append_nil]; exact HBS.out)
      clear HBS
      go_upto_region 5 with fail
      go_cut [8, 9] (fun s0 s1 wx => s0 = .int .i64 (k : Int) ∧ s1 = .pointer (some ⟨wo.heap.size, 0, none⟩) ∧ wx.cell? ⟨wo.heap.size, 0, none⟩ = some (.int .i64 (mc l k 0)) ∧ wx.cell? ⟨wo.heap.size, 1, none⟩ = some (.int .i64 (mc l k 1)) ∧ wx.cell? ⟨wo.heap.size, 2, none⟩ = some (.int .i64 (mc l k 2)) ∧ wx.cell? ⟨wo.heap.size, 3, none⟩ = some (.int .i64 (mc l k 3)) ∧ wx.cell? ⟨wo.heap.size, 4, none⟩ = some (.int .i64 (mc l k 4)) ∧ Below wo.heap.size wo wx ∧ wo.heap.size < wx.heap.size)
      case first =>
        go_wp2
        go_meet
        refine ⟨rfl, rfl, by go_simp, by go_simp, by go_simp, by go_simp, by go_simp, (by repeat (first | exact Below.refl _ _ | assumption | refine Below.drew ?_ | refine below_drewN ?_ _ | refine Below.alloc ?_ (by first | omega | (simp; done) | (simp; omega)) _ | refine Below.setCell ?_ (by first | omega | (simp; done) | (simp; omega)) _ | refine Below.trans ?_ (Below.mono (by assumption) (by first | omega | (simp; done) | (simp; omega))))), by simp⟩
      case rest =>
        obtain ⟨rfl, rfl, e0, e1, e2, e3, e4, hbc, hzc⟩ := hcut
        obtain ⟨W1, rfl⟩ : ∃ x, x = wc := ⟨_, rfl⟩
        have hB1 : Below w.heap.size w W1 := hbr.trans (hbc.mono (by first | omega | (simp; done) | (simp; omega)))
        clear c0 c1 c2 c3 c4
        go_wp2
        go_loopw [4, 5, 6, 7, 10] (fun f s t b i wr => ∃ (j F S : Nat), k < j ∧ j ≤ l.length ∧ F < l.length ∧ S < l.length ∧ f = .int .i64 (F : Int) ∧ s = .int .i64 (S : Int) ∧ t = .int .i64 (al2 l F S) ∧ b = .int .i64 (ad2 l F S) ∧ i = .int .i64 (j : Int) ∧ Hid ((F, S) = bst l (pall l.length k ++ prow k j)) ∧ wr.cell? ⟨wo.heap.size, 0, none⟩ = some (.int .i64 (mc l k 0)) ∧ wr.cell? ⟨wo.heap.size, 1, none⟩ = some (.int .i64 (mc l k 1)) ∧ wr.cell? ⟨wo.heap.size, 2, none⟩ = some (.int .i64 (mc l k 2)) ∧ wr.cell? ⟨wo.heap.size, 3, none⟩ = some (.int .i64 (mc l k 3)) ∧ wr.cell? ⟨wo.heap.size, 4, none⟩ = some (.int .i64 (mc l k 4)) ∧ Below w.heap.size w wr ∧ wo.heap.size < wr.heap.size) (fun _ _ _ _ i _ => l.length - (intOf i).toNat)
        case atStart => exact ⟨k + 1, F, S, by omega, by omega, hF, hS, rfl, rfl, rfl, rfl, by go_num, HBS0, e0, e1, e2, e3, e4, hB1, hzc⟩
        case round =>
          clear e0 e1 e2 e3 e4 hB1 hbc hzc HBS0 hF hS
          obtain ⟨j, F, S, hkj, hj, hF, hS, rfl, rfl, rfl, rfl, rfl, HBS, e0, e1, e2, e3, e4, hbi, hzi⟩ := hrel
          obtain ⟨wi, rfl⟩ : ∃ x, x = wr := ⟨_, rfl⟩
          have hsi := hbi.size
          by_cases hlj : j < l.length
          · obtain ⟨b', off', hbb, d0, d1, d2, d3, d4⟩ := (HA.out.below hbi) j hlj
            simp only [Option.some.injEq, Addr.mk.injEq] at hbb
            obtain ⟨hb1', hb2', _⟩ := hbb
            subst hb1' hb2'
            have m0 : (0 : Int) ≤ (j : Int) := by omega
            have m1 : (j : Int) < (l.length : Int) := by omega
            have m2 : j < l.length := hlj
            have m3 : IntKind.i64.wrap ((j : Int) + 1) = (j : Int) + 1 := IntWalk.i64_in _ (by omega)
            have HL := Lib.hid (fun W => apLeast_at (HALL.out k j hlt hlj) W)
            have HS := Lib.hid (fun W => less_at (HALL.out k j hlt hlj) (HALL.out F S hF hS) W)
            obtain ⟨P, hP⟩ : ∃ P, P = al2 l k j := ⟨_, rfl⟩
            obtain ⟨Q, hQ⟩ : ∃ Q, Q = ad2 l k j := ⟨_, rfl⟩
            obtain ⟨T, hT⟩ : ∃ P, P = al2 l F S := ⟨_, rfl⟩
            obtain ⟨U, hU⟩ : ∃ Q, Q = ad2 l F S := ⟨_, rfl⟩
            rw [← hP, ← hQ] at HL HS
            rw [← hT, ← hU] at HS
            rw [← hT, ← hU]
            have HP' := Lib.hid hP
            have HQ' := Lib.hid hQ
            have HT' := Lib.hid hT
            have HU' := Lib.hid hU
            clear hP hQ hT hU
            go_upto_region 9 with fail
            have rge0 := fun d os => cell_regrown e0 d os
            have rge1 := fun d os => cell_regrown e1 d os
            have rge2 := fun d os => cell_regrown e2 d os
            have rge3 := fun d os => cell_regrown e3 d os
            have rge4 := fun d os => cell_regrown e4 d os
            have rgd0 := fun d os => cell_regrown d0 d os
            have rgd1 := fun d os => cell_regrown d1 d os
            have rgd2 := fun d os => cell_regrown d2 d os
            have rgd3 := fun d os => cell_regrown d3 d os
            have rgd4 := fun d os => cell_regrown d4 d os
            refine wp_region_quiet_below (by kernel_rfl) (by kernel_rfl) ?_
            repeat (quiet_step (first | (with_reducible exact Calls.regrown_of (HL.out _))))
            refine wpQuiet_nil ?_
            intro _ hw'
            obtain ⟨⟨dq, osq⟩, hw''⟩ := hw'
            subst hw''
            have hq := below_regrown wi dq osq
            generalize grow (redrawn wi dq) osq = W2 at hq ⊢
            clear rge0 rge1 rge2 rge3 rge4 rgd0 rgd1 rgd2 rgd3 rgd4 d0 d1 d2 d3 d4 HL
            replace e0 := (hq.cell (World.block_lt_of_cell? _ _ e0)).trans e0; replace e1 := (hq.cell (World.block_lt_of_cell? _ _ e1)).trans e1; replace e2 := (hq.cell (World.block_lt_of_cell? _ _ e2)).trans e2; replace e3 := (hq.cell (World.block_lt_of_cell? _ _ e3)).trans e3; replace e4 := (hq.cell (World.block_lt_of_cell? _ _ e4)).trans e4
            have hz2 := hq.size
            have hB2 : Below w.heap.size w W2 := hbi.trans (hq.mono (by first | omega | (simp; done) | (simp; omega)))
            clear hq
            cases hc : pLt l (k, j) (F, S)
            all_goals rw [hc] at HS
            · have HB2 : Hid ((F, S) = bst l (pall l.length k ++ prow k (j + 1))) := Lib.hid (by rw [prow_step hkj, ← List.append_assoc, bst_no (by rw [← HBS.out]; exact hc)]; exact HBS.out)
              clear hc HBS
              go_wp2_with (go_at_call 98; ((with_reducible refine (HS.out _).mono ?_); rintro e w1 ⟨rfl, hb1⟩))
              go_roundw
              case rel => exact ⟨j + 1, F, S, by omega, by omega, hF, hS, rfl, rfl, by rw [HT'.out], by rw [HU'.out], by go_num, HB2, (hb1.cell (World.block_lt_of_cell? _ _ e0)).trans e0, (hb1.cell (World.block_lt_of_cell? _ _ e1)).trans e1, (hb1.cell (World.block_lt_of_cell? _ _ e2)).trans e2, (hb1.cell (World.block_lt_of_cell? _ _ e3)).trans e3, (hb1.cell (World.block_lt_of_cell? _ _ e4)).trans e4, hB2.trans (hb1.mono (by first | omega | (simp; done) | (simp; omega))), Nat.lt_of_lt_of_le hzi (Nat.le_trans hz2 hb1.size)⟩
              case measure => simp [intOf]; omega
            · have HB2 : Hid ((k, j) = bst l (pall l.length k ++ prow k (j + 1))) := Lib.hid (by rw [prow_step hkj, ← List.append_assoc, bst_yes (by rw [← HBS.out]; exact hc)])
              clear hc HBS
              go_wp2_with (go_at_call 98; ((with_reducible refine (HS.out _).mono ?_); rintro e w1 ⟨rfl, hb1⟩))
              go_roundw
              case rel => exact ⟨j + 1, k, j, by omega, by omega, hlt, hlj, rfl, rfl, by rw [HP'.out], by rw [HQ'.out], by go_num, HB2, (hb1.cell (World.block_lt_of_cell? _ _ e0)).trans e0, (hb1.cell (World.block_lt_of_cell? _ _ e1)).trans e1, (hb1.cell (World.block_lt_of_cell? _ _ e2)).trans e2, (hb1.cell (World.block_lt_of_cell? _ _ e3)).trans e3, (hb1.cell (World.block_lt_of_cell? _ _ e4)).trans e4, hB2.trans (hb1.mono (by first | omega | (simp; done) | (simp; omega))), Nat.lt_of_lt_of_le hzi (Nat.le_trans hz2 hb1.size)⟩
              case measure => simp [intOf]; omega
          · obtain rfl : j = l.length := by omega
            have HB2 : Hid ((F, S) = bst l (pall l.length (k + 1))) := Lib.hid HBS.out
            clear HBS
            go_wp2
            go_roundw
            case rel => exact ⟨k + 1, F, S, by omega, hF, hS, rfl, rfl, rfl, rfl, by go_num, HB2, (by repeat (first | exact Below.refl _ _ | assumption | refine Below.drew ?_ | refine below_drewN ?_ _ | refine Below.alloc ?_ (by first | omega | (simp; done) | (simp; omega)) _ | refine Below.setCell ?_ (by first | omega | (simp; done) | (simp; omega)) _ | refine Below.trans ?_ (Below.mono (by assumption) (by first | omega | (simp; done) | (simp; omega)))))⟩
            case measure => simp [intOf]; omega
    · obtain rfl : k = l.length := by omega
      have E0 : Hid (clo l = (F, S)) := Lib.hid (by rw [HCLO.out]; exact HBS.out.symm)
      go_wp2
      first | (go_ret; exact ⟨by rw [E0.out], (by repeat (first | exact Below.refl _ _ | assumption | refine Below.drew ?_ | refine below_drewN ?_ _ | refine Below.alloc ?_ (by first | omega | (simp; done) | (simp; omega)) _ | refine Below.setCell ?_ (by first | omega | (simp; done) | (simp; omega)) _ | refine Below.trans ?_ (Below.mono (by assumption) (by first | omega | (simp; done) | (simp; omega)))))⟩) | (exact bodyPost_ret (v := .tuple #[.int .i64 (F : Int), .int .i64 (S : Int)]) (by simp [results, Try.results77, go_sem, *]) rfl ⟨by rw [E0.out], (by repeat (first | exact Below.refl _ _ | assumption | refine Below.drew ?_ | refine below_drewN ?_ _ | refine Below.alloc ?_ (by first | omega | (simp; done) | (simp; omega)) _ | refine Below.setCell ?_ (by first | omega | (simp; done) | (simp; omega)) _ | refine Below.trans ?_ (Below.mono (by assumption) (by first | omega | (simp; done) | (simp; omega)))))⟩)

end Go.Proofs.Ytjojjmmdgldcbaa
