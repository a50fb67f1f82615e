/- Lists of moves that go together, both sides. Conditions: those written in each theorem. -/
import Derived.Test.YtjojjmmdgldcbaaApGood
import Derived.Test.YtjojjmmdgldcbaaMvs
import Derived.Deep.RegionHeld3
import Derived.Deep.DrawnRows
import Derived.IntWalk
import Derived.StillTailTactics
import Derived.Deep.DeepCutAuto
import Derived.Deep.LoopGhost
import Derived.Lib.QuietBelow
namespace Go.Proofs.Ytjojjmmdgldcbaa
open Go.RowKit Go.Sort


attribute [local go_sem ↓] Go.wp_at_zero Go.wp_at_succ

/-- Do two moves of the list go together? -/
def gt2 (l : List (Int × Int × Int × Int × Int)) (i k : Nat) : Bool := gtog (mc l i 0) (mc l i 1) (mc l i 2) (mc l i 3) (mc l i 4) (mc l k 0) (mc l k 1) (mc l k 2) (mc l k 3) (mc l k 4)
/-- A list of moves that all go together. -/
def mvsOk (l : List (Int × Int × Int × Int × Int)) : Bool := decide (∀ j, j < l.length → gt2 l 0 j = true) && inB 2 (l.length : Int) 12
theorem mvsOk_len {l : List (Int × Int × Int × Int × Int)} (h : inB 2 (l.length : Int) 12 = false) : mvsOk l = false := by unfold mvsOk; rw [h, Bool.and_false]
theorem mvsOk_no {l : List (Int × Int × Int × Int × Int)} {k : Nat} (hk : k < l.length) (h : gt2 l 0 k = false) : mvsOk l = false := by
  unfold mvsOk
  rw [decide_eq_false (fun e => by rw [e k hk] at h; cases h)]
  rfl
theorem mvsOk_all {l : List (Int × Int × Int × Int × Int)} (h : ∀ j, j < l.length → gt2 l 0 j = true) : mvsOk l = inB 2 (l.length : Int) 12 := by
  unfold mvsOk
  rw [decide_eq_true h]
  rfl
theorem mvsOk_iff {l : List (Int × Int × Int × Int × Int)} (h : mvsOk l = true) : 2 ≤ l.length ∧ l.length ≤ 12 ∧ ∀ i k, i < l.length → k < l.length → gt2 l i k = true := by
  unfold mvsOk at h
  rw [Bool.and_eq_true, inB_iff] at h
  obtain ⟨h1, h2⟩ := h
  have h1 := of_decide_eq_true h1
  refine ⟨by omega, by omega, fun i k hi hk => ?_⟩
  have a := gtog_iff.1 (h1 i hi)
  have b := gtog_iff.1 (h1 k hk)
  exact gtog_iff.2 ⟨a.2.1, b.2.1, a.2.2.symm.trans b.2.2⟩
theorem MovesAt.two {w : World} {a : Option Addr} {l : List (Int × Int × Int × Int × Int)} (h : MovesAt w a l) {i k : Nat} (hi : i < l.length) (hk : k < l.length) : ∃ b off, a = some ⟨b, off, none⟩ ∧ b < w.heap.size ∧ w.cell? ⟨b, off + i * 5, none⟩ = some (.int .i64 (mc l i 0)) ∧ w.cell? ⟨b, off + i * 5 + 1, none⟩ = some (.int .i64 (mc l i 1)) ∧ w.cell? ⟨b, off + i * 5 + 2, none⟩ = some (.int .i64 (mc l i 2)) ∧ w.cell? ⟨b, off + i * 5 + 3, none⟩ = some (.int .i64 (mc l i 3)) ∧ w.cell? ⟨b, off + i * 5 + 4, none⟩ = some (.int .i64 (mc l i 4)) ∧ w.cell? ⟨b, off + k * 5, none⟩ = some (.int .i64 (mc l k 0)) ∧ w.cell? ⟨b, off + k * 5 + 1, none⟩ = some (.int .i64 (mc l k 1)) ∧ w.cell? ⟨b, off + k * 5 + 2, none⟩ = some (.int .i64 (mc l k 2)) ∧ w.cell? ⟨b, off + k * 5 + 3, none⟩ = some (.int .i64 (mc l k 3)) ∧ w.cell? ⟨b, off + k * 5 + 4, none⟩ = some (.int .i64 (mc l k 4)) := by
  obtain ⟨b, off, ha, c0, c1, c2, c3, c4⟩ := h i hi
  obtain ⟨b', off', ha', d0, d1, d2, d3, d4⟩ := h k hk
  have e := ha.symm.trans ha'
  simp only [Option.some.injEq, Addr.mk.injEq] at e
  obtain ⟨e1, e2, _⟩ := e
  subst e1 e2
  exact ⟨b, off, ha, World.block_lt_of_cell? _ _ c0, c0, c1, c2, c3, c4, d0, d1, d2, d3, d4⟩
theorem MovesAt.zero {w : World} {a : Option Addr} {l : List (Int × Int × Int × Int × Int)} (h : MovesAt w a l) {k : Nat} (h0 : 0 < l.length) (hk : k < l.length) : ∃ b off, a = some ⟨b, off, none⟩ ∧ b < w.heap.size ∧ w.cell? ⟨b, off, none⟩ = some (.int .i64 (mc l 0 0)) ∧ w.cell? ⟨b, off + 1, none⟩ = some (.int .i64 (mc l 0 1)) ∧ w.cell? ⟨b, off + 2, none⟩ = some (.int .i64 (mc l 0 2)) ∧ w.cell? ⟨b, off + 3, none⟩ = some (.int .i64 (mc l 0 3)) ∧ w.cell? ⟨b, off + 4, none⟩ = some (.int .i64 (mc l 0 4)) ∧ w.cell? ⟨b, off + k * 5, none⟩ = some (.int .i64 (mc l k 0)) ∧ w.cell? ⟨b, off + k * 5 + 1, none⟩ = some (.int .i64 (mc l k 1)) ∧ w.cell? ⟨b, off + k * 5 + 2, none⟩ = some (.int .i64 (mc l k 2)) ∧ w.cell? ⟨b, off + k * 5 + 3, none⟩ = some (.int .i64 (mc l k 3)) ∧ w.cell? ⟨b, off + k * 5 + 4, none⟩ = some (.int .i64 (mc l k 4)) := by
  obtain ⟨b, off, ha, hb, c0, c1, c2, c3, c4, d⟩ := h.two h0 hk
  simp only [Nat.zero_mul, Nat.add_zero] at c0 c1 c2 c3 c4
  exact ⟨b, off, ha, hb, c0, c1, c2, c3, c4, d⟩
theorem MovesAt.one {w : World} {a : Option Addr} {l : List (Int × Int × Int × Int × Int)} (h : MovesAt w a l) (h0 : 1 < l.length) : ∃ b off, a = some ⟨b, off, none⟩ ∧ b < w.heap.size ∧ w.cell? ⟨b, off, none⟩ = some (.int .i64 (mc l 0 0)) ∧ w.cell? ⟨b, off + 1, none⟩ = some (.int .i64 (mc l 0 1)) ∧ w.cell? ⟨b, off + 2, none⟩ = some (.int .i64 (mc l 0 2)) ∧ w.cell? ⟨b, off + 3, none⟩ = some (.int .i64 (mc l 0 3)) ∧ w.cell? ⟨b, off + 4, none⟩ = some (.int .i64 (mc l 0 4)) ∧ w.cell? ⟨b, off + 5, none⟩ = some (.int .i64 (mc l 1 0)) ∧ w.cell? ⟨b, off + 6, none⟩ = some (.int .i64 (mc l 1 1)) ∧ w.cell? ⟨b, off + 7, none⟩ = some (.int .i64 (mc l 1 2)) ∧ w.cell? ⟨b, off + 8, none⟩ = some (.int .i64 (mc l 1 3)) ∧ w.cell? ⟨b, off + 9, none⟩ = some (.int .i64 (mc l 1 4)) := by
  obtain ⟨b, off, ha, hb, c0, c1, c2, c3, c4, d0, d1, d2, d3, d4⟩ := h.zero (k := 1) (by omega) h0
  exact ⟨b, off, ha, hb, c0, c1, c2, c3, c4, d0, d1, d2, d3, d4⟩

set_option maxRecDepth 100000 in
set_option maxHeartbeats 4000000 in
theorem apList_any (a : Option Addr) (cap : Nat) (l : List (Int × Int × Int × Int × Int)) (hl : l.length ≤ 1048576) {w : World} (ha : MovesAt w a l) :
    Calls Try.prog 76 #[.slice a l.length cap] w fun e w' => e = .returned (.bool (mvsOk l)) ∧ Below w.heap.size w w' := by
  have HA := Lib.hid ha
  clear ha
  go_enter Try.func76, Try.ntmps76
  go_wp2
  go_loopw [7] (fun i wr => ∃ (k : Nat), k ≤ l.length ∧ i = .int .i64 k ∧ Hid (∀ j, j < k → gt2 l 0 j = true) ∧ Below w.heap.size w wr) (fun i _ => l.length - (intOf i).toNat)
  case atStart => exact ⟨0, Nat.zero_le _, rfl, Lib.hid (fun j h => absurd h (Nat.not_lt_zero j)), (by repeat (first | exact Below.refl _ _ | assumption | refine Below.drew ?_ | refine below_drewN ?_ _ | refine Below.alloc ?_ (by first | omega | (simp; done) | (simp; omega)) _ | refine Below.setCell ?_ (by first | omega | (simp; done) | (simp; omega)) _ | refine Below.trans ?_ (Below.mono (by assumption) (by first | omega | (simp; done) | (simp; omega)))))⟩
  case round =>
    obtain ⟨k, hk, rfl, HON, hbr⟩ := hrel
    obtain ⟨wo, rfl⟩ : ∃ wo, wo = wr := ⟨_, rfl⟩
    have hsr := hbr.size
    by_cases hlt : k < l.length
    · obtain ⟨b, off, rfl, hb0, c0, c1, c2, c3, c4, d0, d1, d2, d3, d4⟩ := (HA.out.below hbr).zero (by omega) hlt
      have i0 : (0 : Int) ≤ (k : Int) := by omega
      have i1 : (k : Int) < (l.length : Int) := by omega
      have i2 : 0 < l.length := by omega
      obtain ⟨x0, hx0⟩ : ∃ z, z = mc l k 0 := ⟨_, rfl⟩
      obtain ⟨y0, hy0⟩ : ∃ z, z = mc l 0 0 := ⟨_, rfl⟩
      obtain ⟨x1, hx1⟩ : ∃ z, z = mc l k 1 := ⟨_, rfl⟩
      obtain ⟨y1, hy1⟩ : ∃ z, z = mc l 0 1 := ⟨_, rfl⟩
      obtain ⟨x2, hx2⟩ : ∃ z, z = mc l k 2 := ⟨_, rfl⟩
      obtain ⟨y2, hy2⟩ : ∃ z, z = mc l 0 2 := ⟨_, rfl⟩
      obtain ⟨x3, hx3⟩ : ∃ z, z = mc l k 3 := ⟨_, rfl⟩
      obtain ⟨y3, hy3⟩ : ∃ z, z = mc l 0 3 := ⟨_, rfl⟩
      obtain ⟨x4, hx4⟩ : ∃ z, z = mc l k 4 := ⟨_, rfl⟩
      obtain ⟨y4, hy4⟩ : ∃ z, z = mc l 0 4 := ⟨_, rfl⟩
      have HG := Lib.hid (fun W => apGood_any y0 y1 y2 y3 y4 x0 x1 x2 x3 x4 W)
      have hgt : gt2 l 0 k = gtog y0 y1 y2 y3 y4 x0 x1 x2 x3 x4 := by unfold gt2; rw [hx0, hy0, hx1, hy1, hx2, hy2, hx3, hy3, hx4, hy4]
      have HGT := Lib.hid hgt
      rw [← hx0] at d0; rw [← hy0] at c0; rw [← hx1] at d1; rw [← hy1] at c1; rw [← hx2] at d2; rw [← hy2] at c2; rw [← hx3] at d3; rw [← hy3] at c3; rw [← hx4] at d4; rw [← hy4] at c4
      clear hgt hx0 hy0 hx1 hy1 hx2 hy2 hx3 hy3 hx4 hy4
      go_upto_region 3 with fail
      go_cut [4] (fun s wx => s = .pointer (some ⟨wo.heap.size, 0, none⟩) ∧ wx.cell? ⟨wo.heap.size, 0, none⟩ = some (.int .i64 x0) ∧ wx.cell? ⟨wo.heap.size, 1, none⟩ = some (.int .i64 x1) ∧ wx.cell? ⟨wo.heap.size, 2, none⟩ = some (.int .i64 x2) ∧ wx.cell? ⟨wo.heap.size, 3, none⟩ = some (.int .i64 x3) ∧ wx.cell? ⟨wo.heap.size, 4, none⟩ = some (.int .i64 x4) ∧ Below wo.heap.size wo wx ∧ wo.heap.size < wx.heap.size)
      case first =>
        go_wp2
        go_meet
        refine ⟨rfl, by go_simp, by go_simp, by go_simp, by go_simp, by go_simp, (by repeat (first | exact Below.refl _ _ | assumption | refine Below.drew ?_ | refine below_drewN ?_ _ | refine Below.alloc ?_ (by first | omega | (simp; done) | (simp; omega)) _ | refine Below.setCell ?_ (by first | omega | (simp; done) | (simp; omega)) _ | refine Below.trans ?_ (Below.mono (by assumption) (by first | omega | (simp; done) | (simp; omega))))), by simp⟩
      case rest =>
        obtain ⟨rfl, e0, e1, e2, e3, e4, hbc, hzc⟩ := hcut
        replace c0 := (hbc.cell (World.block_lt_of_cell? _ _ c0)).trans c0; replace c1 := (hbc.cell (World.block_lt_of_cell? _ _ c1)).trans c1; replace c2 := (hbc.cell (World.block_lt_of_cell? _ _ c2)).trans c2; replace c3 := (hbc.cell (World.block_lt_of_cell? _ _ c3)).trans c3; replace c4 := (hbc.cell (World.block_lt_of_cell? _ _ c4)).trans c4
        clear d0 d1 d2 d3 d4
        go_upto_region 4 with fail
        cases hc : gtog y0 y1 y2 y3 y4 x0 x1 x2 x3 x4
        all_goals
          rw [hc] at HG HGT
          clear hc
        · have E0 := Lib.hid (mvsOk_no hlt HGT.out)
          have rgc0 := fun d os => cell_regrown c0 d os
          have rgc1 := fun d os => cell_regrown c1 d os
          have rgc2 := fun d os => cell_regrown c2 d os
          have rgc3 := fun d os => cell_regrown c3 d os
          have rgc4 := fun d os => cell_regrown c4 d os
          have rge0 := fun d os => cell_regrown e0 d os
          have rge1 := fun d os => cell_regrown e1 d os
          have rge2 := fun d os => cell_regrown e2 d os
          have rge3 := fun d os => cell_regrown e3 d os
          have rge4 := fun d os => cell_regrown e4 d os
          refine wp_region_quiet_below (by kernel_rfl) (by kernel_rfl) ?_
          repeat (quiet_step (first | (with_reducible exact Calls.regrown_of (HG.out _))))
          refine wpQuiet_nil ?_
          intro _ hw'
          obtain ⟨⟨dq, osq⟩, hw''⟩ := hw'
          subst hw''
          have hq := below_regrown wc dq osq
          generalize grow (redrawn wc dq) osq = W2 at hq ⊢
          have hB : Below w.heap.size w W2 := hbr.trans ((hbc.mono (by first | omega | (simp; done) | (simp; omega))).trans (hq.mono (by first | omega | (simp; done) | (simp; omega))))
          clear rgc0 rge0 rgc1 rge1 rgc2 rge2 rgc3 rge3 rgc4 rge4
          go_wp2
          go_ret
          exact ⟨by rw [E0.out]; rfl, hB⟩
        · have HON2 := Lib.hid (ext_lt (p := fun j => gt2 l 0 j = true) HON.out HGT.out)
          have rgc0 := fun d os => cell_regrown c0 d os
          have rgc1 := fun d os => cell_regrown c1 d os
          have rgc2 := fun d os => cell_regrown c2 d os
          have rgc3 := fun d os => cell_regrown c3 d os
          have rgc4 := fun d os => cell_regrown c4 d os
          have rge0 := fun d os => cell_regrown e0 d os
          have rge1 := fun d os => cell_regrown e1 d os
          have rge2 := fun d os => cell_regrown e2 d os
          have rge3 := fun d os => cell_regrown e3 d os
          have rge4 := fun d os => cell_regrown e4 d os
          refine wp_region_quiet_below (by kernel_rfl) (by kernel_rfl) ?_
          repeat (quiet_step (first | (with_reducible exact Calls.regrown_of (HG.out _))))
          refine wpQuiet_nil ?_
          intro _ hw'
          obtain ⟨⟨dq, osq⟩, hw''⟩ := hw'
          subst hw''
          have hq := below_regrown wc dq osq
          generalize grow (redrawn wc dq) osq = W2 at hq ⊢
          have hB : Below w.heap.size w W2 := hbr.trans ((hbc.mono (by first | omega | (simp; done) | (simp; omega))).trans (hq.mono (by first | omega | (simp; done) | (simp; omega))))
          clear rgc0 rge0 rgc1 rge1 rgc2 rge2 rgc3 rge3 rgc4 rge4
          go_wp2
          go_roundw
          case rel => exact ⟨k + 1, by omega, by go_num, HON2, hB⟩
          case measure => simp [intOf]; omega
    · obtain rfl : k = l.length := by omega
      have E0 := Lib.hid (mvsOk_all HON.out)
      go_wp2_with (go_at_call 54; (refine (l1In_any _ _ _ _).mono ?_; rintro e w' ⟨rfl, rfl⟩))
      go_ret
      exact ⟨by rw [E0.out]; rfl, (by repeat (first | exact Below.refl _ _ | assumption | refine Below.drew ?_ | refine below_drewN ?_ _ | refine Below.alloc ?_ (by first | omega | (simp; done) | (simp; omega)) _ | refine Below.setCell ?_ (by first | omega | (simp; done) | (simp; omega)) _ | refine Below.trans ?_ (Below.mono (by assumption) (by first | omega | (simp; done) | (simp; omega)))))⟩

set_option maxRecDepth 100000 in
set_option maxHeartbeats 4000000 in
theorem allGo_any (a : Option Addr) (cap : Nat) (l : List (Int × Int × Int × Int × Int)) (hl : l.length ≤ 1048576) {w : World} (ha : MovesAt w a l) :
    Calls Try.prog 78 #[.slice a l.length cap] w fun e w' => e = .returned (.bool (mvsOk l)) ∧ Below w.heap.size w w' := by
  have HA := Lib.hid ha
  clear ha
  cases h1 : inB 2 (l.length : Int) 12
  · have E0 := Lib.hid (mvsOk_len h1)
    have HP := Lib.hid (fun W => inRange_any (l.length : Int) 2 12 W)
    rw [h1] at HP
    clear h1
    go_enter Try.func78, Try.ntmps78
    go_wp2_with (go_at_call 59; ((with_reducible refine (HP.out _).mono ?_); rintro e w' ⟨rfl, rfl⟩))
    go_ret
    exact ⟨by rw [E0.out]; rfl, (by repeat (first | exact Below.refl _ _ | assumption | refine Below.drew ?_ | refine below_drewN ?_ _ | refine Below.alloc ?_ (by first | omega | (simp; done) | (simp; omega)) _ | refine Below.setCell ?_ (by first | omega | (simp; done) | (simp; omega)) _ | refine Below.trans ?_ (Below.mono (by assumption) (by first | omega | (simp; done) | (simp; omega)))))⟩
  have HP := Lib.hid (fun W => inRange_any (l.length : Int) 2 12 W)
  rw [h1] at HP
  have H1 := Lib.hid h1
  clear h1
  go_enter Try.func78, Try.ntmps78
  go_wp2_with (go_at_call 59; ((with_reducible refine (HP.out _).mono ?_); rintro e w' ⟨rfl, rfl⟩))
  go_loopw [11] (fun i wr => ∃ (k : Nat), k ≤ l.length ∧ i = .int .i64 k ∧ Hid (∀ j, j < k → gt2 l 0 j = true) ∧ Below w.heap.size w wr) (fun i _ => l.length - (intOf i).toNat)
  case atStart => exact ⟨0, Nat.zero_le _, rfl, Lib.hid (fun j h => absurd h (Nat.not_lt_zero j)), (by repeat (first | exact Below.refl _ _ | assumption | refine Below.drew ?_ | refine below_drewN ?_ _ | refine Below.alloc ?_ (by first | omega | (simp; done) | (simp; omega)) _ | refine Below.setCell ?_ (by first | omega | (simp; done) | (simp; omega)) _ | refine Below.trans ?_ (Below.mono (by assumption) (by first | omega | (simp; done) | (simp; omega)))))⟩
  case round =>
    obtain ⟨k, hk, rfl, HON, hbr⟩ := hrel
    obtain ⟨wo, rfl⟩ : ∃ wo, wo = wr := ⟨_, rfl⟩
    have hsr := hbr.size
    by_cases hlt : k < l.length
    · obtain ⟨b, off, rfl, hb0, c0, c1, c2, c3, c4, d0, d1, d2, d3, d4⟩ := (HA.out.below hbr).zero (by omega) hlt
      have i0 : (0 : Int) ≤ (k : Int) := by omega
      have i1 : (k : Int) < (l.length : Int) := by omega
      have i2 : 0 < l.length := by omega
      obtain ⟨x0, hx0⟩ : ∃ z, z = mc l k 0 := ⟨_, rfl⟩
      obtain ⟨y0, hy0⟩ : ∃ z, z = mc l 0 0 := ⟨_, rfl⟩
      obtain ⟨x1, hx1⟩ : ∃ z, z = mc l k 1 := ⟨_, rfl⟩
      obtain ⟨y1, hy1⟩ : ∃ z, z = mc l 0 1 := ⟨_, rfl⟩
      obtain ⟨x2, hx2⟩ : ∃ z, z = mc l k 2 := ⟨_, rfl⟩
      obtain ⟨y2, hy2⟩ : ∃ z, z = mc l 0 2 := ⟨_, rfl⟩
      obtain ⟨x3, hx3⟩ : ∃ z, z = mc l k 3 := ⟨_, rfl⟩
      obtain ⟨y3, hy3⟩ : ∃ z, z = mc l 0 3 := ⟨_, rfl⟩
      obtain ⟨x4, hx4⟩ : ∃ z, z = mc l k 4 := ⟨_, rfl⟩
      obtain ⟨y4, hy4⟩ : ∃ z, z = mc l 0 4 := ⟨_, rfl⟩
      have HG := Lib.hid (fun W => goTogether_any y0 y1 y2 y3 y4 x0 x1 x2 x3 x4 W)
      have hgt : gt2 l 0 k = gtog y0 y1 y2 y3 y4 x0 x1 x2 x3 x4 := by unfold gt2; rw [hx0, hy0, hx1, hy1, hx2, hy2, hx3, hy3, hx4, hy4]
      have HGT := Lib.hid hgt
      rw [← hx0] at d0; rw [← hy0] at c0; rw [← hx1] at d1; rw [← hy1] at c1; rw [← hx2] at d2; rw [← hy2] at c2; rw [← hx3] at d3; rw [← hy3] at c3; rw [← hx4] at d4; rw [← hy4] at c4
      clear hgt hx0 hy0 hx1 hy1 hx2 hy2 hx3 hy3 hx4 hy4
      go_upto_region 5 with fail
      go_cut [4] (fun s wx => s = .pointer (some ⟨wo.heap.size, 0, none⟩) ∧ wx.cell? ⟨wo.heap.size, 0, none⟩ = some (.int .i64 x0) ∧ wx.cell? ⟨wo.heap.size, 1, none⟩ = some (.int .i64 x1) ∧ wx.cell? ⟨wo.heap.size, 2, none⟩ = some (.int .i64 x2) ∧ wx.cell? ⟨wo.heap.size, 3, none⟩ = some (.int .i64 x3) ∧ wx.cell? ⟨wo.heap.size, 4, none⟩ = some (.int .i64 x4) ∧ Below wo.heap.size wo wx ∧ wo.heap.size < wx.heap.size)
      case first =>
        go_wp2
        go_meet
        refine ⟨rfl, by go_simp, by go_simp, by go_simp, by go_simp, by go_simp, (by repeat (first | exact Below.refl _ _ | assumption | refine Below.drew ?_ | refine below_drewN ?_ _ | refine Below.alloc ?_ (by first | omega | (simp; done) | (simp; omega)) _ | refine Below.setCell ?_ (by first | omega | (simp; done) | (simp; omega)) _ | refine Below.trans ?_ (Below.mono (by assumption) (by first | omega | (simp; done) | (simp; omega))))), by simp⟩
      case rest =>
        obtain ⟨rfl, e0, e1, e2, e3, e4, hbc, hzc⟩ := hcut
        replace c0 := (hbc.cell (World.block_lt_of_cell? _ _ c0)).trans c0; replace c1 := (hbc.cell (World.block_lt_of_cell? _ _ c1)).trans c1; replace c2 := (hbc.cell (World.block_lt_of_cell? _ _ c2)).trans c2; replace c3 := (hbc.cell (World.block_lt_of_cell? _ _ c3)).trans c3; replace c4 := (hbc.cell (World.block_lt_of_cell? _ _ c4)).trans c4
        clear d0 d1 d2 d3 d4
        go_upto_region 6 with fail
        cases hc : gtog y0 y1 y2 y3 y4 x0 x1 x2 x3 x4
        all_goals
          rw [hc] at HG HGT
          clear hc
        · have E0 := Lib.hid (mvsOk_no hlt HGT.out)
          have rgc0 := fun d os => cell_regrown c0 d os
          have rgc1 := fun d os => cell_regrown c1 d os
          have rgc2 := fun d os => cell_regrown c2 d os
          have rgc3 := fun d os => cell_regrown c3 d os
          have rgc4 := fun d os => cell_regrown c4 d os
          have rge0 := fun d os => cell_regrown e0 d os
          have rge1 := fun d os => cell_regrown e1 d os
          have rge2 := fun d os => cell_regrown e2 d os
          have rge3 := fun d os => cell_regrown e3 d os
          have rge4 := fun d os => cell_regrown e4 d os
          refine wp_region_quiet_below (by kernel_rfl) (by kernel_rfl) ?_
          repeat (quiet_step (first | (with_reducible exact Calls.regrown_of (HG.out _))))
          refine wpQuiet_nil ?_
          intro _ hw'
          obtain ⟨⟨dq, osq⟩, hw''⟩ := hw'
          subst hw''
          have hq := below_regrown wc dq osq
          generalize grow (redrawn wc dq) osq = W2 at hq ⊢
          have hB : Below w.heap.size w W2 := hbr.trans ((hbc.mono (by first | omega | (simp; done) | (simp; omega))).trans (hq.mono (by first | omega | (simp; done) | (simp; omega))))
          clear rgc0 rge0 rgc1 rge1 rgc2 rge2 rgc3 rge3 rgc4 rge4
          go_wp2
          go_ret
          exact ⟨by rw [E0.out]; rfl, hB⟩
        · have HON2 := Lib.hid (ext_lt (p := fun j => gt2 l 0 j = true) HON.out HGT.out)
          have rgc0 := fun d os => cell_regrown c0 d os
          have rgc1 := fun d os => cell_regrown c1 d os
          have rgc2 := fun d os => cell_regrown c2 d os
          have rgc3 := fun d os => cell_regrown c3 d os
          have rgc4 := fun d os => cell_regrown c4 d os
          have rge0 := fun d os => cell_regrown e0 d os
          have rge1 := fun d os => cell_regrown e1 d os
          have rge2 := fun d os => cell_regrown e2 d os
          have rge3 := fun d os => cell_regrown e3 d os
          have rge4 := fun d os => cell_regrown e4 d os
          refine wp_region_quiet_below (by kernel_rfl) (by kernel_rfl) ?_
          repeat (quiet_step (first | (with_reducible exact Calls.regrown_of (HG.out _))))
          refine wpQuiet_nil ?_
          intro _ hw'
          obtain ⟨⟨dq, osq⟩, hw''⟩ := hw'
          subst hw''
          have hq := below_regrown wc dq osq
          generalize grow (redrawn wc dq) osq = W2 at hq ⊢
          have hB : Below w.heap.size w W2 := hbr.trans ((hbc.mono (by first | omega | (simp; done) | (simp; omega))).trans (hq.mono (by first | omega | (simp; done) | (simp; omega))))
          clear rgc0 rge0 rgc1 rge1 rgc2 rge2 rgc3 rge3 rgc4 rge4
          go_wp2
          go_roundw
          case rel => exact ⟨k + 1, by omega, by go_num, HON2, hB⟩
          case measure => simp [intOf]; omega
    · obtain rfl : k = l.length := by omega
      have E0 := Lib.hid ((mvsOk_all HON.out).trans H1.out)
      go_wp2
      go_ret
      exact ⟨by rw [E0.out]; rfl, (by repeat (first | exact Below.refl _ _ | assumption | refine Below.drew ?_ | refine below_drewN ?_ _ | refine Below.alloc ?_ (by first | omega | (simp; done) | (simp; omega)) _ | refine Below.setCell ?_ (by first | omega | (simp; done) | (simp; omega)) _ | refine Below.trans ?_ (Below.mono (by assumption) (by first | omega | (simp; done) | (simp; omega)))))⟩

end Go.Proofs.Ytjojjmmdgldcbaa
