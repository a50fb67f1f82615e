/- CloseMoves: the pairs of close moves; the specification's side. Conditions: those written in each theorem. -/
import Derived.Test.YtjojjmmdgldcbaaApPr
import Derived.Test.YtjojjmmdgldcbaaApLi2
import Derived.Deep.RegionHeld3
import Derived.Deep.DrawnRows
import Derived.IntWalk
import Derived.StillTailTactics
import Derived.Deep.DeepCutAuto
import Derived.Deep.LoopGhost
import Derived.Lib.QuietBelow
namespace Go.Proofs.Ytjojjmmdgldcbaa
open Go.RowKit Go.Sort


attribute [local go_sem ↓] Go.wp_at_zero Go.wp_at_succ

/-- Do the two moves of a pair come too close? -/
def cl2 (l : List (Int × Int × Int × Int × Int)) (L : Int) (p : Nat × Nat) : Bool := !apSt (mc l p.1 0 - mc l p.2 0) (mc l p.1 1 - mc l p.2 1) (mc l p.1 2 - mc l p.2 2) (mc l p.1 3 - mc l p.2 3) L
def cmOk (l : List (Int × Int × Int × Int × Int)) (L : Int) : Bool := mvsOk l && inB 0 L 80
/-- CloseMoves' pairs. -/
def closeMs (l : List (Int × Int × Int × Int × Int)) (L : Int) : List (Nat × Nat) := if cmOk l L then (allP2 l.length).filter (cl2 l L) else []
def CmPost (l : List (Int × Int × Int × Int × Int)) (L : Int) (w : World) (e : Ending) (w' : World) : Prop :=
  ∃ v, e = .returned (.tuple #[v, .bool (cmOk l L)]) ∧ (∃ Z, OwnZ w' w.heap.size v Z ∧ rowsL Z = prL (closeMs l L)) ∧ Below w.heap.size w w'
theorem filter_yes {c : Nat × Nat → Bool} {ps : List (Nat × Nat)} {p : Nat × Nat} (h : c p = true) : (ps ++ [p]).filter c = ps.filter c ++ [p] := by rw [List.filter_append]; simp [h]
theorem filter_no {c : Nat × Nat → Bool} {ps : List (Nat × Nat)} {p : Nat × Nat} (h : c p = false) : (ps ++ [p]).filter c = ps.filter c := by rw [List.filter_append]; simp [h]
theorem prL_snoc (ps : List (Nat × Nat)) (i j : Nat) : prL (ps ++ [(i, j)]) = prL ps ++ [[(i : Int), (j : Int)]] := by simp [prL]
theorem prL_len (ps : List (Nat × Nat)) : (prL ps).length = ps.length := by simp [prL]
theorem rowsL_snoc (Z : List (Value × List Int)) (u : Value) (xs : List Int) : rowsL (Z ++ [(u, xs)]) = rowsL Z ++ [xs] := by simp [rowsL]
theorem own_type {w : World} {g base n : Nat} {v : Value} {xs : List Value} {cur : Array Value} (h : w.heap[g]? = some (.cells cur 30 (0, 0))) (ho : w.ownsRow base 37 1 v n xs) : v.ownBlock ≠ some g := by
  intro e
  rcases ho.2 with ⟨rfl, _⟩ | ⟨g', cap, cur', rfl, _, hg, _⟩
  · cases e
  · simp only [Value.ownBlock, Option.some.injEq] at e
    subst e
    have := hg.symm.trans h
    simp at this
theorem apStay_at {l : List (Int × Int × Int × Int × Int)} {i k : Nat} {L : Int} (h : gt2 l i k = true) (L0 : 0 ≤ L) (L1 : L ≤ 80) (w : World) :
    Calls Try.prog 68 #[.agg #[.int .i64 (mc l i 0), .int .i64 (mc l i 1), .int .i64 (mc l i 2), .int .i64 (mc l i 3), .int .i64 (mc l i 4)], .agg #[.int .i64 (mc l k 0), .int .i64 (mc l k 1), .int .i64 (mc l k 2), .int .i64 (mc l k 3), .int .i64 (mc l k 4)], .int .i64 L] w fun e w' => e = .returned (.bool (!cl2 l L (i, k))) ∧ Below w.heap.size w w' := by
  obtain ⟨hw, v1, v2, v3, v4⟩ := gt2_way h
  have := apStay_any (mc l i 0) (mc l i 1) (mc l i 2) (mc l i 3) (mc l i 4) (mc l k 0) (mc l k 1) (mc l k 2) (mc l k 3) (mc l k 4) _ _ _ _ L v1 v2 v3 v4 hw L0 L1 w
  unfold cl2
  rw [Bool.not_not]
  exact this
theorem stay_at {l : List (Int × Int × Int × Int × Int)} {i k : Nat} {L : Int} (h : gt2 l i k = true) (L0 : 0 ≤ L) (L1 : L ≤ 80) (w : World) :
    Calls Try.prog 70 #[.agg #[.int .i64 (mc l i 0), .int .i64 (mc l i 1), .int .i64 (mc l i 2), .int .i64 (mc l i 3), .int .i64 (mc l i 4)], .agg #[.int .i64 (mc l k 0), .int .i64 (mc l k 1), .int .i64 (mc l k 2), .int .i64 (mc l k 3), .int .i64 (mc l k 4)], .int .i64 L] w fun e w' => e = .returned (.bool (!cl2 l L (i, k))) ∧ Below w.heap.size w w' := by
  obtain ⟨hw, v1, v2, v3, v4⟩ := gt2_way h
  have := stay_any (mc l i 0) (mc l i 1) (mc l i 2) (mc l i 3) (mc l i 4) (mc l k 0) (mc l k 1) (mc l k 2) (mc l k 3) (mc l k 4) _ _ _ _ L v1 v2 v3 v4 hw h L0 L1 w
  unfold cl2
  rw [Bool.not_not]
  exact this

set_option maxRecDepth 100000 in
set_option maxHeartbeats 2000000 in
theorem specClsM_no (a : Option Addr) (cap : Nat) (l : List (Int × Int × Int × Int × Int)) (hl : l.length ≤ 1048576) (L : Int) {w : World} (hv : mvsOk l = false) (ha : MovesAt w a l) :
    Calls Try.prog 40 #[.slice a l.length cap, .int .i64 L] w fun e w' => e = .returned (.tuple #[.slice none 0 0, .bool false]) ∧ Below w.heap.size w w' := by
  have HG := Lib.hid (fun (W : World) (hb : Below w.heap.size w W) => apList_any a cap l hl (ha.below hb))
  rw [hv] at HG
  clear hv ha
  go_enter Try.func40, Try.ntmps40
  go_wp2_with (go_at_call 76; ((with_reducible refine (HG.out _ (by repeat (first | exact Below.refl _ _ | assumption | refine Below.drew ?_ | refine below_drewN ?_ _ | refine Below.alloc ?_ (by first | omega | (simp; done) | (simp; omega)) _ | refine Below.setCell ?_ (by first | omega | (simp; done) | (simp; omega)) _ | refine Below.trans ?_ (Below.mono (by assumption) (by first | omega | (simp; done) | (simp; omega)))))).mono ?_); rintro e w1 ⟨rfl, hb1⟩; have hs1 := hb1.size; (try simp at hs1)))
  go_ret2
  exact ⟨rfl, (by repeat (first | exact Below.refl _ _ | assumption | refine Below.drew ?_ | refine below_drewN ?_ _ | refine Below.alloc ?_ (by first | omega | (simp; done) | (simp; omega)) _ | refine Below.setCell ?_ (by first | omega | (simp; done) | (simp; omega)) _ | refine Below.trans ?_ (Below.mono (by assumption) (by first | omega | (simp; done) | (simp; omega)))))⟩

set_option maxRecDepth 100000 in
set_option maxHeartbeats 2000000 in
theorem specClsM_far (a : Option Addr) (cap : Nat) (l : List (Int × Int × Int × Int × Int)) (hl : l.length ≤ 1048576) (L : Int) {w : World} (hv : mvsOk l = true) (h2 : inB 0 L 80 = false) (ha : MovesAt w a l) :
    Calls Try.prog 40 #[.slice a l.length cap, .int .i64 L] w fun e w' => e = .returned (.tuple #[.slice none 0 0, .bool false]) ∧ Below w.heap.size w w' := by
  have HG := Lib.hid (fun (W : World) (hb : Below w.heap.size w W) => apList_any a cap l hl (ha.below hb))
  rw [hv] at HG
  have HD := Lib.hid (fun W => apDistance_any L W)
  rw [h2] at HD
  clear hv h2 ha
  go_enter Try.func40, Try.ntmps40
  go_wp2_with (first | (go_at_call 76; ((with_reducible refine (HG.out _ (by repeat (first | exact Below.refl _ _ | assumption | refine Below.drew ?_ | refine below_drewN ?_ _ | refine Below.alloc ?_ (by first | omega | (simp; done) | (simp; omega)) _ | refine Below.setCell ?_ (by first | omega | (simp; done) | (simp; omega)) _ | refine Below.trans ?_ (Below.mono (by assumption) (by first | omega | (simp; done) | (simp; omega)))))).mono ?_); rintro e w1 ⟨rfl, hb1⟩; have hs1 := hb1.size; (try simp at hs1))) | (go_at_call 67; ((with_reducible refine (HD.out _).mono ?_); rintro e w' ⟨rfl, rfl⟩)))
  go_ret2
  exact ⟨rfl, (by repeat (first | exact Below.refl _ _ | assumption | refine Below.drew ?_ | refine below_drewN ?_ _ | refine Below.alloc ?_ (by first | omega | (simp; done) | (simp; omega)) _ | refine Below.setCell ?_ (by first | omega | (simp; done) | (simp; omega)) _ | refine Below.trans ?_ (Below.mono (by assumption) (by first | omega | (simp; done) | (simp; omega)))))⟩

set_option maxRecDepth 100000 in
set_option maxHeartbeats 8000000 in
theorem specClsM_yes (a : Option Addr) (cap : Nat) (l : List (Int × Int × Int × Int × Int)) (hl : l.length ≤ 1048576) (L : Int) {w : World} (hv : mvsOk l = true) (L0 : 0 ≤ L) (L1 : L ≤ 80) (ha : MovesAt w a l) :
    Calls Try.prog 40 #[.slice a l.length cap, .int .i64 L] w fun e w' => ∃ v, e = .returned (.tuple #[v, .bool true]) ∧ (∃ Z, OwnZ w' w.heap.size v Z ∧ rowsL Z = prL ((allP2 l.length).filter (cl2 l L))) ∧ Below w.heap.size w w' := by
  obtain ⟨n2, n12, hall⟩ := mvsOk_iff hv
  have HG := Lib.hid (fun (W : World) (hb : Below w.heap.size w W) => apList_any a cap l hl (ha.below hb))
  rw [hv] at HG
  have HD := Lib.hid (fun W => apDistance_any L W)
  rw [inB_iff.2 ⟨L0, L1⟩] at HD
  have HA := Lib.hid ha
  have HALL := Lib.hid hall
  obtain ⟨b, off, rfl, hb0, _⟩ := ha.one (by omega)
  clear ha hall hv hb0
  have HL0 := Lib.hid L0
  have HL1 := Lib.hid L1
  clear L0 L1
  obtain ⟨q1, q2, q3, q4, q5, q6, q7⟩ := nadd
  obtain ⟨q0, hi, hz0, hz1, hz2⟩ := info_parts Try.infoInts
  have HI := Lib.hid hi
  have HZ0 := Lib.hid hz0
  have HZ1 := Lib.hid hz1
  have HZ2 := Lib.hid hz2
  clear hi hz0 hz1 hz2
  go_enter Try.func40, Try.ntmps40
  go_wp2_with (first | (go_at_call 76; ((with_reducible refine (HG.out _ (by repeat (first | exact Below.refl _ _ | assumption | refine Below.drew ?_ | refine below_drewN ?_ _ | refine Below.alloc ?_ (by first | omega | (simp; done) | (simp; omega)) _ | refine Below.setCell ?_ (by first | omega | (simp; done) | (simp; omega)) _ | refine Below.trans ?_ (Below.mono (by assumption) (by first | omega | (simp; done) | (simp; omega)))))).mono ?_); rintro e w1 ⟨rfl, hb1⟩; have hs1 := hb1.size; (try simp at hs1))) | (go_at_call 67; ((with_reducible refine (HD.out _).mono ?_); rintro e w' ⟨rfl, rfl⟩)))
  have hB1 : Below w.heap.size w w1 := (by repeat (first | exact Below.refl _ _ | assumption | refine Below.drew ?_ | refine below_drewN ?_ _ | refine Below.alloc ?_ (by first | omega | (simp; done) | (simp; omega)) _ | refine Below.setCell ?_ (by first | omega | (simp; done) | (simp; omega)) _ | refine Below.trans ?_ (Below.mono (by assumption) (by first | omega | (simp; done) | (simp; omega)))))
  clear hb1 HG HD
  go_loopw [6, 20] (fun v i wr => ∃ (k : Nat), k ≤ l.length ∧ i = .int .i64 (k : Int) ∧ Hid (∃ Z, OwnZ wr w.heap.size v Z ∧ rowsL Z = prL ((pall l.length k).filter (cl2 l L))) ∧ Below w.heap.size w wr) (fun _ i _ => l.length - (intOf i).toNat)
  case atStart => exact ⟨0, Nat.zero_le _, rfl, Lib.hid ⟨[], OwnZ.nil _ _, rfl⟩, hB1⟩
  case round =>
    clear hB1 hs1
    obtain ⟨k, hk, rfl, HZ, hbr⟩ := hrel
    obtain ⟨wo, rfl⟩ : ∃ wo, wo = wr := ⟨_, rfl⟩
    have hsr := hbr.size
    by_cases hlt : k < l.length
    · obtain ⟨b', off', hbb, c0, c1, c2, c3, c4⟩ := (HA.out.below hbr) k hlt
      simp only [Option.some.injEq, Addr.mk.injEq] at hbb
      obtain ⟨hx1, hx2, _⟩ := hbb
      subst hx1 hx2
      have i0 : (0 : Int) ≤ (k : Int) := by omega
      have i1 : (k : Int) < (l.length : Int) := by omega
      have i2 : k < l.length := hlt
      have i3 : IntKind.i64.wrap ((k : Int) + 1) = (k : Int) + 1 := IntWalk.i64_in _ (by omega)
      have HZ' := Lib.hid (show ∃ Z, OwnZ wo w.heap.size u6 Z ∧ rowsL Z = prL ((pall l.length k ++ prow k (k + 1)).filter (cl2 l L)) by rw [prow_le (Nat.le_refl _), List.append_nil]; exact HZ.out)
      clear HZ
      go_upto_region 6 with fail
      go_cut [7, 8] (fun s0 s1 wx => s0 = .int .i64 (k : Int) ∧ s1 = .pointer (some ⟨wo.heap.size, 0, none⟩) ∧ wx.heap[wo.heap.size]? = some (.cells #[.int .i64 (mc l k 0), .int .i64 (mc l k 1), .int .i64 (mc l k 2), .int .i64 (mc l k 3), .int .i64 (mc l k 4)] 30 (0, 0)) ∧ Below wo.heap.size wo wx ∧ wo.heap.size < wx.heap.size)
      case first =>
        go_wp2
        go_meet
        refine ⟨rfl, rfl, ?_, (by repeat (first | exact Below.refl _ _ | assumption | refine Below.drew ?_ | refine below_drewN ?_ _ | refine Below.alloc ?_ (by first | omega | (simp; done) | (simp; omega)) _ | refine Below.setCell ?_ (by first | omega | (simp; done) | (simp; omega)) _ | refine Below.trans ?_ (Below.mono (by assumption) (by first | omega | (simp; done) | (simp; omega))))), by simp⟩
        first | exact heap_alloc_new _ _ | (trace_state; sorry)
      case rest =>
        obtain ⟨rfl, rfl, hbox, hbc, hzc⟩ := hcut
        obtain ⟨W1, rfl⟩ : ∃ x, x = wc := ⟨_, rfl⟩
        have hB1 : Below w.heap.size w W1 := hbr.trans (hbc.mono (by first | omega | (simp; done) | (simp; omega)))
        have HZ1' := Lib.hid (show ∃ Z, OwnZ W1 w.heap.size u6 Z ∧ rowsL Z = prL ((pall l.length k ++ prow k (k + 1)).filter (cl2 l L)) by obtain ⟨Z, h1, h2⟩ := HZ'.out; exact ⟨Z, h1.below hbc, h2⟩)
        clear c0 c1 c2 c3 c4 HZ'
        go_wp2
        go_loopw [6, 9] (fun v i wr => ∃ (j : Nat), k < j ∧ j ≤ l.length ∧ i = .int .i64 (j : Int) ∧ Hid (∃ Z, OwnZ wr w.heap.size v Z ∧ rowsL Z = prL ((pall l.length k ++ prow k j).filter (cl2 l L))) ∧ wr.heap[wo.heap.size]? = some (.cells #[.int .i64 (mc l k 0), .int .i64 (mc l k 1), .int .i64 (mc l k 2), .int .i64 (mc l k 3), .int .i64 (mc l k 4)] 30 (0, 0)) ∧ Below w.heap.size w wr ∧ wo.heap.size < wr.heap.size) (fun _ i _ => l.length - (intOf i).toNat)
        case atStart => exact ⟨k + 1, by omega, by omega, by go_num, HZ1', hbox, hB1, hzc⟩
        case round =>
          clear hbox hB1 hbc hzc HZ1'
          obtain ⟨j, hkj, hj, rfl, HZ, hbox, hbi, hzi⟩ := hrel
          obtain ⟨wv, rfl⟩ : ∃ x, x = wr := ⟨_, rfl⟩
          have hsi := hbi.size
          by_cases hlj : j < l.length
          · obtain ⟨b', off', hbb, d0, d1, d2, d3, d4⟩ := (HA.out.below hbi) j hlj
            simp only [Option.some.injEq, Addr.mk.injEq] at hbb
            obtain ⟨hx1, hx2, _⟩ := hbb
            subst hx1 hx2
            have m0 : (0 : Int) ≤ (j : Int) := by omega
            have m1 : (j : Int) < (l.length : Int) := by omega
            have m2 : j < l.length := hlj
            have m3 : IntKind.i64.wrap ((j : Int) + 1) = (j : Int) + 1 := IntWalk.i64_in _ (by omega)
            have e0 : wv.cell? ⟨wo.heap.size, 0, none⟩ = some (.int .i64 (mc l k 0)) := (cell_of_row wv wo.heap.size 0 _ _ (0, 0) hbox).trans rfl; have e1 : wv.cell? ⟨wo.heap.size, 1, none⟩ = some (.int .i64 (mc l k 1)) := (cell_of_row wv wo.heap.size 1 _ _ (0, 0) hbox).trans rfl; have e2 : wv.cell? ⟨wo.heap.size, 2, none⟩ = some (.int .i64 (mc l k 2)) := (cell_of_row wv wo.heap.size 2 _ _ (0, 0) hbox).trans rfl; have e3 : wv.cell? ⟨wo.heap.size, 3, none⟩ = some (.int .i64 (mc l k 3)) := (cell_of_row wv wo.heap.size 3 _ _ (0, 0) hbox).trans rfl; have e4 : wv.cell? ⟨wo.heap.size, 4, none⟩ = some (.int .i64 (mc l k 4)) := (cell_of_row wv wo.heap.size 4 _ _ (0, 0) hbox).trans rfl
            have HL := Lib.hid (fun W => apStay_at (HALL.out k j hlt hlj) HL0.out HL1.out W)
            go_upto_region 10 with fail
            cases hc : cl2 l L (k, j)
            all_goals rw [hc] at HL
            · have rge0 := fun d os => cell_regrown e0 d os
              have rge1 := fun d os => cell_regrown e1 d os
              have rge2 := fun d os => cell_regrown e2 d os
              have rge3 := fun d os => cell_regrown e3 d os
              have rge4 := fun d os => cell_regrown e4 d os
              have rgd0 := fun d os => cell_regrown d0 d os
              have rgd1 := fun d os => cell_regrown d1 d os
              have rgd2 := fun d os => cell_regrown d2 d os
              have rgd3 := fun d os => cell_regrown d3 d os
              have rgd4 := fun d os => cell_regrown d4 d os
              refine wp_region_quiet_below (by kernel_rfl) (by kernel_rfl) ?_
              repeat (quiet_step (first | (with_reducible exact Calls.regrown_of (HL.out _))))
              refine wpQuiet_nil ?_
              intro _ hw'
              obtain ⟨⟨dq, osq⟩, hw''⟩ := hw'
              subst hw''
              have hq := below_regrown wv dq osq
              generalize grow (redrawn wv dq) osq = wi at hq ⊢
              clear rge0 rge1 rge2 rge3 rge4 rgd0 rgd1 rgd2 rgd3 rgd4 d0 d1 d2 d3 d4 e0 e1 e2 e3 e4 HL
              have hz2 := hq.size
              have hB2 : Below w.heap.size w wi := hbi.trans (hq.mono (by first | omega | (simp; done) | (simp; omega)))
              have hbox2 : wi.heap[wo.heap.size]? = some (.cells #[.int .i64 (mc l k 0), .int .i64 (mc l k 1), .int .i64 (mc l k 2), .int .i64 (mc l k 3), .int .i64 (mc l k 4)] 30 (0, 0)) := (hq.block _ hzi).trans hbox
              have HZ2 := Lib.hid (show ∃ Z, OwnZ wi w.heap.size u6 Z ∧ rowsL Z = prL ((pall l.length k ++ prow k (j + 1)).filter (cl2 l L)) by obtain ⟨Z, h1, h2⟩ := HZ.out; exact ⟨Z, h1.below hq, by rw [prow_step hkj, ← List.append_assoc, filter_no hc]; exact h2⟩)
              clear hq hc HZ hbox
              go_wp2
              go_roundw
              case rel => exact ⟨j + 1, by omega, by omega, by go_num, HZ2, hbox2, hB2, by omega⟩
              case measure => simp [intOf]; omega
            · have rge0 := fun d os => cell_regrown e0 d os
              have rge1 := fun d os => cell_regrown e1 d os
              have rge2 := fun d os => cell_regrown e2 d os
              have rge3 := fun d os => cell_regrown e3 d os
              have rge4 := fun d os => cell_regrown e4 d os
              have rgd0 := fun d os => cell_regrown d0 d os
              have rgd1 := fun d os => cell_regrown d1 d os
              have rgd2 := fun d os => cell_regrown d2 d os
              have rgd3 := fun d os => cell_regrown d3 d os
              have rgd4 := fun d os => cell_regrown d4 d os
              refine wp_region_quiet_below (by kernel_rfl) (by kernel_rfl) ?_
              repeat (quiet_step (first | (with_reducible exact Calls.regrown_of (HL.out _))))
              refine wpQuiet_nil ?_
              intro _ hw'
              obtain ⟨⟨dq, osq⟩, hw''⟩ := hw'
              subst hw''
              have hq := below_regrown wv dq osq
              generalize grow (redrawn wv dq) osq = wi at hq ⊢
              clear rge0 rge1 rge2 rge3 rge4 rgd0 rgd1 rgd2 rgd3 rgd4 d0 d1 d2 d3 d4 e0 e1 e2 e3 e4 HL
              have hz2 := hq.size
              have hB2 : Below w.heap.size w wi := hbi.trans (hq.mono (by first | omega | (simp; done) | (simp; omega)))
              have hbox2 : wi.heap[wo.heap.size]? = some (.cells #[.int .i64 (mc l k 0), .int .i64 (mc l k 1), .int .i64 (mc l k 2), .int .i64 (mc l k 3), .int .i64 (mc l k 4)] 30 (0, 0)) := (hq.block _ hzi).trans hbox
              obtain ⟨Z, how0, hrows⟩ := HZ.out
              have how := how0.below hq
              have HOW := Lib.hid how
              have hzl := congrArg List.length hrows
              rw [rowsL_length, prL_len] at hzl
              have hfl := List.length_filter_le (cl2 l L) (pall l.length k ++ prow k j)
              rw [List.length_append] at hfl
              have hl1 := pall_len l.length k
              have hl2 := prow_len k j
              have hl3 : k * l.length ≤ 12 * 12 := Nat.mul_le_mul (by omega) n12
              have hzb : Z.length ≤ 200 := by omega
              have hnew : rowsL Z ++ [[(k : Int), (j : Int)]] = prL ((pall l.length k ++ prow k (j + 1)).filter (cl2 l L)) := by rw [hrows, prow_step hkj, ← List.append_assoc, filter_yes hc, prL_snoc]
              have HN := Lib.hid hnew
              have hsw := hB2.size
              clear how how0 hrows hnew hzl hfl hl1 hl2 hl3 HZ hq hc hbox hbi
              have hgo : wo.heap.size < wi.heap.size := by omega
              go_wp2_with (at_builtin; refine wpList_append_own _ rfl _ _ 54 rfl (w.heap.size) 37 q0 (.slice none 0 0) 1 24 Try.underlying54 HI.out HZ0.out HZ1.out HZ2.out rfl (by decide) _ _ _ rfl ((HOW.out.1.alloc _).alloc _) ⟨wi.heap.size + 1, 0, none⟩ 1 1 [.slice (some ⟨wi.heap.size, 0, none⟩) 2 2] rfl rfl ?c1 ?c2 ?c3 ?c4 ?c5 ?_)
              case c1 =>
                intro t u ht
                match t, ht with
                | 0, ht => simp at ht; subst ht; simp [Addr.add]
              case c2 => intro u hu; simp at hu; subst hu; rfl
              case c3 => unfold maxLen; omega
              case c4 => omega
              case c5 => simp; omega
              intro v' w2 hown' hgrow _
              have hZ1 : OwnZ ((wi.alloc (.cells #[.int .i64 (k : Int), .int .i64 (j : Int)] 3)).alloc (.cells #[.slice (some ⟨wi.heap.size, 0, none⟩) 2 2] 37)) w.heap.size _ Z := HOW.out.below (((Below.refl _ wi).alloc (Nat.le_refl _) _).alloc (by simp) _)
              have hu : OwnInts ((wi.alloc (.cells #[.int .i64 (k : Int), .int .i64 (j : Int)] 3)).alloc (.cells #[.slice (some ⟨wi.heap.size, 0, none⟩) 2 2] 37)) w.heap.size (.slice (some ⟨wi.heap.size, 0, none⟩) 2 2) [(k : Int), (j : Int)] := World.ownsRow.alloc (World.ownsRow_lit wi #[.int .i64 (k : Int), .int .i64 (j : Int)] 2 hsw (by unfold maxLen; omega) rfl) _
              have hst := OwnZ.step hZ1 hu (fun z hz g hg e => by
                have h1 := (World.ownsRow.lt (HOW.out.2.1 z hz) g hg).2
                have h2 : wi.heap.size = g := Option.some.inj e
                omega) hown' hgrow
              have hb2 : Below w.heap.size w w2 := ((hB2.alloc hsw _).alloc (by simp; omega) _).grown hgrow (by simp; omega) (fun x hx => (World.ownsRow.lt HOW.out.1 x hx).1)
              have hszw := hgrow.size
              simp at hszw
              have hbox3 : w2.heap[wo.heap.size]? = some (.cells #[.int .i64 (mc l k 0), .int .i64 (mc l k 1), .int .i64 (mc l k 2), .int .i64 (mc l k 3), .int .i64 (mc l k 4)] 30 (0, 0)) := (hgrow.block _ (by simp; omega) (Ne.symm (own_type hbox2 HOW.out.1))).trans ((heap_alloc_old _ _ (by simp; omega)).trans ((heap_alloc_old _ _ hgo).trans hbox2))
              have HZ2 : Hid (∃ Z, OwnZ w2 w.heap.size v' Z ∧ rowsL Z = prL ((pall l.length k ++ prow k (j + 1)).filter (cl2 l L))) := Lib.hid ⟨_, hst, by rw [← HN.out, rowsL_snoc]⟩
              clear hown' hgrow hst hZ1 hu HOW HN hbox2
              go_wp2
              go_roundw
              case rel => exact ⟨j + 1, by omega, by omega, by go_num, HZ2, hbox3, hb2, by omega⟩
              case measure => simp [intOf]; omega
          · obtain rfl : j = l.length := by omega
            have HZ2 : Hid (∃ Z, OwnZ wv w.heap.size u6 Z ∧ rowsL Z = prL ((pall l.length (k + 1)).filter (cl2 l L))) := Lib.hid HZ.out
            clear HZ hbox
            go_wp2
            go_roundw
            case rel => exact ⟨k + 1, by omega, by go_num, HZ2, (by repeat (first | exact Below.refl _ _ | assumption | refine Below.drew ?_ | refine below_drewN ?_ _ | refine Below.alloc ?_ (by first | omega | (simp; done) | (simp; omega)) _ | refine Below.setCell ?_ (by first | omega | (simp; done) | (simp; omega)) _ | refine Below.trans ?_ (Below.mono (by assumption) (by first | omega | (simp; done) | (simp; omega)))))⟩
            case measure => simp [intOf]; omega
    · obtain rfl : k = l.length := by omega
      go_wp2
      go_ret2
      exact ⟨_, rfl, HZ.out, (by repeat (first | exact Below.refl _ _ | assumption | refine Below.drew ?_ | refine below_drewN ?_ _ | refine Below.alloc ?_ (by first | omega | (simp; done) | (simp; omega)) _ | refine Below.setCell ?_ (by first | omega | (simp; done) | (simp; omega)) _ | refine Below.trans ?_ (Below.mono (by assumption) (by first | omega | (simp; done) | (simp; omega)))))⟩

theorem specClsM_any (a : Option Addr) (cap : Nat) (l : List (Int × Int × Int × Int × Int)) (hl : l.length ≤ 1048576) (L : Int) {w : World} (ha : MovesAt w a l) :
    Calls Try.prog 40 #[.slice a l.length cap, .int .i64 L] w (CmPost l L w) := by
  have hno : cmOk l L = false → closeMs l L = [] := fun e => by unfold closeMs; rw [e]; rfl
  cases hv : mvsOk l
  · have e1 : cmOk l L = false := by unfold cmOk; rw [hv]; rfl
    exact (specClsM_no a cap l hl L hv ha).mono fun e w' ⟨he, hb⟩ => ⟨.slice none 0 0, by rw [e1]; exact he, ⟨[], OwnZ.nil _ _, by rw [hno e1]; rfl⟩, hb⟩
  · cases h2 : inB 0 L 80
    · have e1 : cmOk l L = false := by unfold cmOk; rw [hv, h2]; rfl
      exact (specClsM_far a cap l hl L hv h2 ha).mono fun e w' ⟨he, hb⟩ => ⟨.slice none 0 0, by rw [e1]; exact he, ⟨[], OwnZ.nil _ _, by rw [hno e1]; rfl⟩, hb⟩
    · have e1 : cmOk l L = true := by unfold cmOk; rw [hv, h2]; rfl
      have e2 : closeMs l L = (allP2 l.length).filter (cl2 l L) := by unfold closeMs; rw [e1, if_pos rfl]
      obtain ⟨L0, L1⟩ := inB_iff.1 h2
      exact (specClsM_yes a cap l hl L hv L0 L1 ha).mono fun e w' ⟨v, he, hz, hb⟩ => ⟨v, by rw [e1]; exact he, by rw [e2]; exact hz, hb⟩

end Go.Proofs.Ytjojjmmdgldcbaa
