/- The closest pair of a chart, the program's side. No conditions but those written in each theorem. -/
import Derived.Test.YtmflgcikclikeaaChCl
import Derived.Test.YtmflgcikclikeaaApPr
import Derived.Test.YtmflgcikclikeaaChLeastI
import Derived.Deep.RegionHeld3
import Derived.Deep.DrawnRows
import Derived.IntWalk
import Derived.StillTailTactics
import Derived.Deep.DeepCutAuto
import Derived.Deep.LoopGhost
import Derived.OwnWalk
import Derived.Lib.QuietBelow
namespace Go.Proofs.Ytmflgcikclikeaa
open Go.RowKit Go.Sort


attribute [local go_sem ↓] Go.wp_at_zero Go.wp_at_succ

/-- The best pair of some pairs and one before. -/
def foldB (l : List (Int × Int)) (ps : List (Nat × Nat)) (s : Bst) : Bst := ps.foldl (fun s p => stepB l p.1 p.2 s) s
theorem foldB_app (l : List (Int × Int)) (ps qs : List (Nat × Nat)) (s : Bst) : foldB l (ps ++ qs) s = foldB l qs (foldB l ps s) := by unfold foldB; rw [List.foldl_append]
theorem inB2_fold (l : List (Int × Int)) (i : Nat) (s : Bst) : ∀ m, inB2 l i s m = foldB l (prow i (i + 1 + m)) s
  | 0 => by rw [prow_le (Nat.le_refl _)]; rfl
  | m + 1 => by
    rw [show i + 1 + (m + 1) = (i + 1 + m) + 1 from rfl, prow_step (by omega), foldB_app, ← inB2_fold l i s m]
    rfl
theorem outB_fold (l : List (Int × Int)) : ∀ i, i ≤ l.length → outB l i = foldB l (pall l.length i) ⟨0, 0, -1⟩
  | 0, _ => rfl
  | i + 1, h => by
    show inB2 l i (outB l i) (l.length - (i + 1)) = foldB l (pall l.length i ++ prow i l.length) _
    rw [foldB_app, ← outB_fold l i (by omega), inB2_fold, show i + 1 + (l.length - (i + 1)) = l.length by omega]
theorem prow_head : ∀ k, 2 ≤ k → ∃ R, prow 0 k = (0, 1) :: R
  | 2, _ => ⟨[], rfl⟩
  | k + 3, _ => by
    obtain ⟨R, hR⟩ := prow_head (k + 2) (by omega)
    exact ⟨R ++ [(0, k + 2)], by rw [prow_step (by omega), hR]; rfl⟩
theorem pall_head {n : Nat} (h : 2 ≤ n) : ∀ i, 1 ≤ i → ∃ R, pall n i = (0, 1) :: R
  | 1, _ => by
    obtain ⟨R, hR⟩ := prow_head n h
    exact ⟨R, by show [] ++ prow 0 n = _; rw [hR]; rfl⟩
  | i + 2, _ => by
    obtain ⟨R, hR⟩ := pall_head h (i + 1) (by omega)
    exact ⟨R ++ prow (i + 1) n, by show pall n (i + 1) ++ prow (i + 1) n = _; rw [hR]; rfl⟩
/-- From the first pair on it comes out as from none on. -/
theorem best_fold {l : List (Int × Int)} (h2 : 2 ≤ l.length) : bestB l = foldB l (allP2 l.length) ⟨0, 1, sqp l 0 1⟩ := by
  unfold bestB
  rw [outB_fold l l.length (Nat.le_refl _)]
  obtain ⟨R, hR⟩ := pall_head h2 l.length (by omega)
  unfold allP2
  rw [hR]
  show foldB l R (stepB l 0 1 ⟨0, 0, -1⟩) = foldB l R (stepB l 0 1 ⟨0, 1, sqp l 0 1⟩)
  rw [stepB_yes (.inl (by decide)), show stepB l 0 1 ⟨0, 1, sqp l 0 1⟩ = ⟨0, 1, sqp l 0 1⟩ by by_cases c : (sqp l 0 1 < 0 ∨ sqp l 0 1 < sqp l 0 1); exact stepB_yes c; exact stepB_no c]
theorem foldB_take {l : List (Int × Int)} {ps : List (Nat × Nat)} {k : Nat} (h : k < ps.length) (s : Bst) : foldB l (ps.take (k + 1)) s = stepB l ps[k].1 ps[k].2 (foldB l (ps.take k) s) := by
  rw [List.take_succ_eq_append_getElem h, foldB_app]
  rfl

theorem PairsAt.two {w : World} {a : Option Addr} {l : List (Int × Int)} (h : PairsAt w a l) {i k : Nat} (hi : i < l.length) (hk : k < l.length) : ∃ b off, a = some ⟨b, off, none⟩ ∧ b < w.heap.size ∧ w.cell? ⟨b, off + i * 2, none⟩ = some (.int .i64 (sx l i)) ∧ w.cell? ⟨b, off + i * 2 + 1, none⟩ = some (.int .i64 (sy l i)) ∧ w.cell? ⟨b, off + k * 2, none⟩ = some (.int .i64 (sx l k)) ∧ w.cell? ⟨b, off + k * 2 + 1, none⟩ = some (.int .i64 (sy l k)) := by
  obtain ⟨b, off, ha, c0, c1⟩ := h i hi
  obtain ⟨b', off', ha', d0, d1⟩ := h k hk
  have e := ha.symm.trans ha'
  simp only [Option.some.injEq, Addr.mk.injEq] at e
  obtain ⟨e1, e2, _⟩ := e
  subst e1 e2
  exact ⟨b, off, ha, World.block_lt_of_cell? _ _ c0, c0, c1, d0, d1⟩
theorem PairsAt.one {w : World} {a : Option Addr} {l : List (Int × Int)} (h : PairsAt w a l) (h2 : 1 < l.length) : ∃ b off, a = some ⟨b, off, none⟩ ∧ b < w.heap.size ∧ w.cell? ⟨b, off, none⟩ = some (.int .i64 (sx l 0)) ∧ w.cell? ⟨b, off + 1, none⟩ = some (.int .i64 (sy l 0)) ∧ w.cell? ⟨b, off + 2, none⟩ = some (.int .i64 (sx l 1)) ∧ w.cell? ⟨b, off + 3, none⟩ = some (.int .i64 (sy l 1)) := by
  obtain ⟨b, off, ha, hb, c0, c1, d0, d1⟩ := h.two (i := 0) (k := 1) (by omega) h2
  exact ⟨b, off, ha, hb, by simpa using c0, by simpa using c1, d0, d1⟩
theorem sqBet_at {l : List (Int × Int)} (h : allOn l = true) {i k : Nat} (hi : i < l.length) (hk : k < l.length) (w : World) :
    Calls Try.prog 23 #[.agg #[.int .i64 (sx l i), .int .i64 (sy l i)], .agg #[.int .i64 (sx l k), .int .i64 (sy l k)]] w fun e w' => e = .returned (.int .i64 (sqp l i k)) ∧ Below w.heap.size w w' :=
  squareBetween_any _ _ _ _ (allOn_at h i hi) (allOn_at h k hk) w
theorem pair_get2 {ps : List (Nat × Nat)} {k : Nat} (h : k < ps.length) : (prL ps).getD k [] = [(ps[k].1 : Int), (ps[k].2 : Int)] := by
  unfold prL
  rw [List.getD_eq_getElem?_getD, List.getElem?_map, List.getElem?_eq_getElem h]
  rfl
theorem prL_len (ps : List (Nat × Nat)) : (prL ps).length = ps.length := by simp [prL]
theorem two_ints {w : World} {ai : Option Addr} {x y : Int} (h : IntsAt w ai [x, y]) : ∃ b off, ai = some ⟨b, off, none⟩ ∧ w.cell? ⟨b, off, none⟩ = some (.int .i64 x) ∧ w.cell? ⟨b, off + 1, none⟩ = some (.int .i64 y) := by
  obtain ⟨b, off, ha, h0⟩ := h 0 (by simp)
  obtain ⟨b', off', ha', h1⟩ := h 1 (by simp)
  have e := ha.symm.trans ha'
  simp only [Option.some.injEq, Addr.mk.injEq] at e
  obtain ⟨e1, e2, _⟩ := e
  subst e1 e2
  exact ⟨b, off, ha, by simpa using h0, by simpa using h1⟩
theorem Bst.eta (s : Bst) : s = ⟨s.a, s.b, s.n⟩ := rfl

set_option maxHeartbeats 1000000 in
theorem pairI_no (a : Option Addr) (cap : Nat) (l : List (Int × Int)) (hl : l.length ≤ 1048576) {w : World} (ha : PairsAt w a l) (hv : chOk l = false) :
    Calls Try.prog 22 #[.slice a l.length cap] w fun e w' => e = .returned (.tuple #[.int .i64 (guardI (clOk l) ((bestB l).a : Int)), .int .i64 (guardI (clOk l) ((bestB l).b : Int)), .bool (clOk l)]) ∧ Below w.heap.size w w' := by
  have HG := Lib.hid (fun (W : World) (hb : Below w.heap.size w W) => isChart_any a cap l hl (ha.below hb))
  rw [hv] at HG
  rw [clOk_ch hv]
  clear hv ha
  go_enter Try.func22, Try.ntmps22
  go_wp2_with (go_at_call 13; ((with_reducible refine (HG.out _ (by repeat (first | exact Below.refl _ _ | assumption | refine Below.drew ?_ | refine below_drewN ?_ _ | refine Below.alloc ?_ (by first | omega | (simp; done) | (simp; omega)) _ | refine Below.setCell ?_ (by first | omega | (simp; done) | (simp; omega)) _ | refine Below.trans ?_ (Below.mono (by assumption) (by first | omega | (simp; done) | (simp; omega)))))).mono ?_); rintro e w1 ⟨rfl, hb1⟩; have hs1 := hb1.size; (try simp at hs1)))
  first | exact bodyPost_ret (v := .tuple #[.int .i64 0, .int .i64 0, .bool false]) (by simp [results, Try.results22, go_sem, *]) rfl ⟨rfl, (by repeat (first | exact Below.refl _ _ | assumption | refine Below.drew ?_ | refine below_drewN ?_ _ | refine Below.alloc ?_ (by first | omega | (simp; done) | (simp; omega)) _ | refine Below.setCell ?_ (by first | omega | (simp; done) | (simp; omega)) _ | refine Below.trans ?_ (Below.mono (by assumption) (by first | omega | (simp; done) | (simp; omega)))))⟩

set_option maxHeartbeats 1000000 in
theorem pairI_one (a : Option Addr) (cap : Nat) (l : List (Int × Int)) (hl : l.length ≤ 1048576) {w : World} (ha : PairsAt w a l) (hv : chOk l = true) (h2 : l.length = 1) :
    Calls Try.prog 22 #[.slice a l.length cap] w fun e w' => e = .returned (.tuple #[.int .i64 (guardI (clOk l) ((bestB l).a : Int)), .int .i64 (guardI (clOk l) ((bestB l).b : Int)), .bool (clOk l)]) ∧ Below w.heap.size w w' := by
  have HG := Lib.hid (fun (W : World) (hb : Below w.heap.size w W) => isChart_any a cap l hl (ha.below hb))
  rw [hv] at HG
  rw [clOk_len (by omega)]
  have i2 : ((l.length : Int) == 1) = true := by rw [h2]; rfl
  clear hv ha h2
  go_enter Try.func22, Try.ntmps22
  go_wp2_with (go_at_call 13; ((with_reducible refine (HG.out _ (by repeat (first | exact Below.refl _ _ | assumption | refine Below.drew ?_ | refine below_drewN ?_ _ | refine Below.alloc ?_ (by first | omega | (simp; done) | (simp; omega)) _ | refine Below.setCell ?_ (by first | omega | (simp; done) | (simp; omega)) _ | refine Below.trans ?_ (Below.mono (by assumption) (by first | omega | (simp; done) | (simp; omega)))))).mono ?_); rintro e w1 ⟨rfl, hb1⟩; have hs1 := hb1.size; (try simp at hs1)))
  first | exact bodyPost_ret (v := .tuple #[.int .i64 0, .int .i64 0, .bool false]) (by simp [results, Try.results22, go_sem, *]) rfl ⟨rfl, (by repeat (first | exact Below.refl _ _ | assumption | refine Below.drew ?_ | refine below_drewN ?_ _ | refine Below.alloc ?_ (by first | omega | (simp; done) | (simp; omega)) _ | refine Below.setCell ?_ (by first | omega | (simp; done) | (simp; omega)) _ | refine Below.trans ?_ (Below.mono (by assumption) (by first | omega | (simp; done) | (simp; omega)))))⟩

set_option maxRecDepth 100000 in
set_option maxHeartbeats 4000000 in
theorem pairI_yes (a : Option Addr) (cap : Nat) (l : List (Int × Int)) (hl : l.length ≤ 1048576) {w : World} (ha : PairsAt w a l) (hv : chOk l = true) (h2 : 2 ≤ l.length) :
    Calls Try.prog 22 #[.slice a l.length cap] w fun e w' => e = .returned (.tuple #[.int .i64 (guardI (clOk l) ((bestB l).a : Int)), .int .i64 (guardI (clOk l) ((bestB l).b : Int)), .bool (clOk l)]) ∧ Below w.heap.size w w' := by
  have HG := Lib.hid (fun (W : World) (hb : Below w.heap.size w W) => isChart_any a cap l hl (ha.below hb))
  rw [hv] at HG
  rw [clOk_yes hv h2]
  obtain ⟨hon, _, _, n12⟩ := chOk_parts hv
  have HPR := Lib.hid (fun W => pairsOf_any l.length n12 W)
  have HA := Lib.hid ha
  have HON := Lib.hid hon
  have hbf := best_fold h2
  have HPM := Lib.hid (fun p (hp : p ∈ allP2 l.length) => pall_mem hp)
  have hpl := pall_len l.length l.length
  have hpl2 : l.length * l.length ≤ 12 * 12 := Nat.mul_le_mul n12 n12
  have hpl3 : (allP2 l.length).length ≤ 144 := Nat.le_trans hpl hpl2
  obtain ⟨PS, hPS⟩ : ∃ x, x = allP2 l.length := ⟨_, rfl⟩
  rw [← hPS] at HPR hbf HPM hpl3
  have HBF := Lib.hid hbf
  obtain ⟨b, off, rfl, hb0, _⟩ := ha.one (by omega)
  have HQ := Lib.hid (fun W => sqBet_at hon (i := 0) (k := 1) (by omega) (by omega) W)
  have i2 : ((l.length : Int) == 1) = false := by have : (l.length : Int) ≠ 1 := (by omega); simpa using this
  clear ha hbf hv hpl hpl2 hPS hon
  obtain ⟨V, hV⟩ : ∃ z, z = sqp l 0 1 := ⟨_, rfl⟩
  rw [← hV] at HQ HBF
  have HV := Lib.hid hV
  clear hV
  have j0 : 0 < l.length := by omega
  have j1 : 1 < l.length := by omega
  have j2 : (1 : Int) < (l.length : Int) := by omega
  have j3 : (0 : Int) < (l.length : Int) := by omega
  go_enter Try.func22, Try.ntmps22
  go_upto_region 4 with (go_at_call 13; ((with_reducible refine (HG.out _ (by repeat (first | exact Below.refl _ _ | assumption | refine Below.drew ?_ | refine below_drewN ?_ _ | refine Below.alloc ?_ (by first | omega | (simp; done) | (simp; omega)) _ | refine Below.setCell ?_ (by first | omega | (simp; done) | (simp; omega)) _ | refine Below.trans ?_ (Below.mono (by assumption) (by first | omega | (simp; done) | (simp; omega)))))).mono ?_); rintro e w1 ⟨rfl, hb1⟩; have hs1 := hb1.size; (try simp at hs1)))
  have hB1 : Below w.heap.size w w1 := hb1
  obtain ⟨W1, rfl⟩ : ∃ x, x = w1 := ⟨_, rfl⟩
  obtain ⟨b', off', hbb, hb0', c0, c1, d0, d1⟩ := (HA.out.below hB1).one (by omega)
  simp only [Option.some.injEq, Addr.mk.injEq] at hbb
  obtain ⟨hx1, hx2, _⟩ := hbb
  subst hx1 hx2
  clear hb1 hb0
  have rgc0 := fun d os => cell_regrown c0 d os
  have rgc1 := fun d os => cell_regrown c1 d os
  have rgd0 := fun d os => cell_regrown d0 d os
  have rgd1 := fun d os => cell_regrown d1 d os
  refine wp_region_quiet_below (by kernel_rfl) (by kernel_rfl) ?_
  repeat (quiet_step (first | (with_reducible exact Calls.regrown_of (HQ.out _))))
  refine wpQuiet_nil ?_
  intro _ hw'
  obtain ⟨⟨dq, osq⟩, hw''⟩ := hw'
  subst hw''
  have hq := below_regrown W1 dq osq
  generalize grow (redrawn W1 dq) osq = W2 at hq ⊢
  have hB2 : Below w.heap.size w W2 := hB1.trans (hq.mono (by first | omega | (simp; done) | (simp; omega)))
  have hs2 := hB2.size
  clear rgc0 rgc1 rgd0 rgd1 c0 c1 d0 d1 hq hB1 HQ HG
  go_wp2_with (go_at_call 26; (refine (HPR.out _).mono ?_; rintro e w3 ⟨v, rfl, ⟨Z, hZ, hrows⟩, hb3⟩; obtain ⟨az, capz, rfl, hM⟩ := hZ.view; rw [hrows] at hM; rw [hrows, prL_len]; have hs3 := hb3.size))
  have HM0 := Lib.hid hM
  have hB3 : Below w.heap.size w w3 := hB2.trans (hb3.mono (by first | omega | (simp; done) | (simp; omega)))
  clear hM hZ hrows hb3 hB2 HPR
  go_loopw [5, 6, 7, 34] (fun fv sv nv i wr => ∃ (k F S : Nat) (N : Int), k ≤ PS.length ∧ F < l.length ∧ S < l.length ∧ fv = .int .i64 (F : Int) ∧ sv = .int .i64 (S : Int) ∧ nv = .int .i64 N ∧ i = .int .i64 (k : Int) ∧ Hid (foldB l (PS.take k) ⟨0, 1, V⟩ = ⟨F, S, N⟩ ∧ 0 ≤ N) ∧ Hid (MatAt wr W2.heap.size w3.heap.size az (prL PS)) ∧ Below w.heap.size w wr) (fun _ _ _ i _ => PS.length - (intOf i).toNat)
  case atStart => exact ⟨0, 0, 1, V, Nat.zero_le _, j0, j1, rfl, rfl, rfl, rfl, Lib.hid ⟨rfl, by rw [HV.out]; exact (sqp_bound HON.out j0 j1).1⟩, HM0, hB3⟩
  case round =>
    clear HM0 hB3
    obtain ⟨k, F, S, N, hk, hF, hS, rfl, rfl, rfl, rfl, HBS, HM, hbr⟩ := hrel
    obtain ⟨wo, rfl⟩ : ∃ wo, wo = wr := ⟨_, rfl⟩
    have hsr := hbr.size
    by_cases hlt : k < PS.length
    · obtain ⟨bz, oz, ai, ci, haz, hbz, cz, hI, _⟩ := HM.out k (by rw [prL_len]; exact hlt)
      subst haz
      rw [pair_get2 hlt] at cz hI
      obtain ⟨hi, hij, hj⟩ := HPM.out _ (List.getElem_mem hlt)
      have htk := foldB_take (l := l) hlt ⟨0, 1, V⟩
      obtain ⟨p, hp⟩ : ∃ p, p = PS[k] := ⟨_, rfl⟩
      rw [← hp] at cz hI hi hij hj htk
      clear hp
      obtain ⟨i, j⟩ := p
      dsimp only at cz hI hi hij hj htk
      rw [HBS.out.1] at htk
      have hj' : i < l.length := by omega
      obtain ⟨br, or', rfl, x0, x1⟩ := two_ints hI
      clear hI
      have i0 : (0 : Int) ≤ (k : Int) := by omega
      have i1 : (k : Int) < (PS.length : Int) := by omega
      have m0 : (0 : Int) ≤ (i : Int) := by omega
      have m1 : (i : Int) < (l.length : Int) := by omega
      have m2 : (0 : Int) ≤ (j : Int) := by omega
      have m3 : (j : Int) < (l.length : Int) := by omega
      have HQ := Lib.hid (fun W => sqBet_at HON.out hj' hj W)
      obtain ⟨q0, q1⟩ := sqp_bound HON.out hj' hj
      obtain ⟨Q, hQ⟩ : ∃ z, z = sqp l i j := ⟨_, rfl⟩
      rw [← hQ] at HQ q0 q1
      have HTK := Lib.hid htk
      have HQE := Lib.hid hQ
      have HN0 := Lib.hid HBS.out.2
      have HQ0 := Lib.hid q0
      clear htk hQ q0 q1
      go_upto_region 8 with fail
      have rgx0 := fun d os => cell_regrown x0 d os
      have rgx1 := fun d os => cell_regrown x1 d os
      refine wp_region_quiet_below (by kernel_rfl) (by kernel_rfl) ?_
      repeat (quiet_step (first | fail))
      refine wpQuiet_nil ?_
      intro _ hw'
      obtain ⟨⟨dq, osq⟩, hw''⟩ := hw'
      subst hw''
      have hq := below_regrown wo dq osq
      generalize grow (redrawn wo dq) osq = W4 at hq ⊢
      clear rgx0 rgx1 x0 x1 cz
      have hz4 := hq.size
      have HM4 := Lib.hid (HM.out.below hq)
      have hB4 : Below w.heap.size w W4 := hbr.trans (hq.mono (by first | omega | (simp; done) | (simp; omega)))
      clear HM hbr hq
      obtain ⟨b', off', hbb, hb0', c0, c1, d0, d1⟩ := (HA.out.below hB4).two hj' hj
      simp only [Option.some.injEq, Addr.mk.injEq] at hbb
      obtain ⟨hx1, hx2, _⟩ := hbb
      subst hx1 hx2
      go_upto_region 9 with fail
      have rgc0 := fun d os => cell_regrown c0 d os
      have rgc1 := fun d os => cell_regrown c1 d os
      have rgd0 := fun d os => cell_regrown d0 d os
      have rgd1 := fun d os => cell_regrown d1 d os
      refine wp_region_quiet_below (by kernel_rfl) (by kernel_rfl) ?_
      repeat (quiet_step (first | (with_reducible exact Calls.regrown_of (HQ.out _))))
      refine wpQuiet_nil ?_
      intro _ hw'
      obtain ⟨⟨dq, osq⟩, hw''⟩ := hw'
      subst hw''
      have hq := below_regrown W4 dq osq
      generalize grow (redrawn W4 dq) osq = W5 at hq ⊢
      clear rgc0 rgc1 rgd0 rgd1 c0 c1 d0 d1 HQ
      have hz5 := hq.size
      have HM5 := Lib.hid (HM4.out.below hq)
      have hB5 : Below w.heap.size w W5 := hB4.trans (hq.mono (by first | omega | (simp; done) | (simp; omega)))
      clear HM4 hB4 hq
      by_cases hc : Q < N
      · have HB2 : Hid (foldB l (PS.take (k + 1)) ⟨0, 1, V⟩ = ⟨i, j, Q⟩ ∧ 0 ≤ Q) := Lib.hid ⟨by rw [HTK.out, stepB_yes (.inr (by show sqp l i j < N; rw [← HQE.out]; exact hc)), HQE.out], HQ0.out⟩
        clear HTK HBS
        go_wp2
        go_roundw
        case rel => exact ⟨k + 1, i, j, Q, by omega, hj', hj, rfl, rfl, rfl, by go_num, HB2, HM5, hB5⟩
        case measure => simp [intOf]; omega
      · have HB2 : Hid (foldB l (PS.take (k + 1)) ⟨0, 1, V⟩ = ⟨F, S, N⟩ ∧ 0 ≤ N) := Lib.hid ⟨by rw [HTK.out]; exact stepB_no (fun h => by have h0 := HN0.out; rcases h with h | h; (· have h' : N < 0 := h; omega); (· have h' : sqp l i j < N := h; rw [← HQE.out] at h'; omega)), HN0.out⟩
        clear HTK HBS
        go_wp2
        go_roundw
        case rel => exact ⟨k + 1, F, S, N, by omega, hF, hS, rfl, rfl, rfl, by go_num, HB2, HM5, hB5⟩
        case measure => simp [intOf]; omega
    · obtain rfl : k = PS.length := by omega
      have E0 : Hid ((bestB l).a = F ∧ (bestB l).b = S) := Lib.hid (by have e := HBS.out.1; rw [List.take_length, ← HBF.out] at e; rw [e]; exact ⟨rfl, rfl⟩)
      go_wp2
      exact bodyPost_ret (v := .tuple #[.int .i64 (F : Int), .int .i64 (S : Int), .bool true]) (by simp [results, Try.results22, go_sem, *]) rfl ⟨by rw [E0.out.1, E0.out.2]; rfl, (by repeat (first | exact Below.refl _ _ | assumption | refine Below.drew ?_ | refine below_drewN ?_ _ | refine Below.alloc ?_ (by first | omega | (simp; done) | (simp; omega)) _ | refine Below.setCell ?_ (by first | omega | (simp; done) | (simp; omega)) _ | refine Below.trans ?_ (Below.mono (by assumption) (by first | omega | (simp; done) | (simp; omega)))))⟩
theorem pairI_any (a : Option Addr) (cap : Nat) (l : List (Int × Int)) (hl : l.length ≤ 1048576) {w : World} (ha : PairsAt w a l) :
    Calls Try.prog 22 #[.slice a l.length cap] w fun e w' => e = .returned (.tuple #[.int .i64 (guardI (clOk l) ((bestB l).a : Int)), .int .i64 (guardI (clOk l) ((bestB l).b : Int)), .bool (clOk l)]) ∧ Below w.heap.size w w' := by
  cases hv : chOk l
  · exact pairI_no a cap l hl ha hv
  · by_cases h2 : l.length = 1
    · exact pairI_one a cap l hl ha hv h2
    · exact pairI_yes a cap l hl ha hv (by have := (chOk_parts hv).2.2.1; omega)

set_option maxHeartbeats 1000000 in
theorem leastI_no (a : Option Addr) (cap : Nat) (l : List (Int × Int)) (hl : l.length ≤ 1048576) {w : World} (ha : PairsAt w a l) (hv : clOk l = false) :
    Calls Try.prog 14 #[.slice a l.length cap] w fun e w' => e = .returned (.tuple #[.int .i64 (guardI (clOk l) (leastV l)), .bool (clOk l)]) ∧ Below w.heap.size w w' := by
  have HG := Lib.hid (fun (W : World) (hb : Below w.heap.size w W) => pairI_any a cap l hl (ha.below hb))
  rw [hv] at HG
  simp only [guardI_facts.2] at HG
  rw [hv]
  clear hv ha
  go_enter Try.func14, Try.ntmps14
  go_wp2_with (go_at_call 22; ((with_reducible refine (HG.out _ (by repeat (first | exact Below.refl _ _ | assumption | refine Below.drew ?_ | refine below_drewN ?_ _ | refine Below.alloc ?_ (by first | omega | (simp; done) | (simp; omega)) _ | refine Below.setCell ?_ (by first | omega | (simp; done) | (simp; omega)) _ | refine Below.trans ?_ (Below.mono (by assumption) (by first | omega | (simp; done) | (simp; omega)))))).mono ?_); rintro e w1 ⟨rfl, hb1⟩; have hs1 := hb1.size; (try simp at hs1)))
  first | exact bodyPost_ret (v := .tuple #[.int .i64 0, .bool false]) (by simp [results, Try.results14, go_sem, *]) rfl ⟨rfl, (by repeat (first | exact Below.refl _ _ | assumption | refine Below.drew ?_ | refine below_drewN ?_ _ | refine Below.alloc ?_ (by first | omega | (simp; done) | (simp; omega)) _ | refine Below.setCell ?_ (by first | omega | (simp; done) | (simp; omega)) _ | refine Below.trans ?_ (Below.mono (by assumption) (by first | omega | (simp; done) | (simp; omega)))))⟩

set_option maxHeartbeats 2000000 in
theorem leastI_yes (a : Option Addr) (cap : Nat) (l : List (Int × Int)) (hl : l.length ≤ 1048576) {w : World} (ha : PairsAt w a l) (hv : clOk l = true) :
    Calls Try.prog 14 #[.slice a l.length cap] w fun e w' => e = .returned (.tuple #[.int .i64 (guardI (clOk l) (leastV l)), .bool (clOk l)]) ∧ Below w.heap.size w w' := by
  have HG := Lib.hid (fun (W : World) (hb : Below w.heap.size w W) => pairI_any a cap l hl (ha.below hb))
  rw [hv] at HG
  simp only [guardI_facts.1] at HG
  rw [hv]
  unfold clOk at hv
  rw [Bool.and_eq_true] at hv
  have hon := (chOk_parts hv.1).1
  obtain ⟨f1, f2, f3⟩ := best_at hon (of_decide_eq_true hv.2)
  obtain ⟨F, hF⟩ : ∃ z, z = (bestB l).a := ⟨_, rfl⟩
  obtain ⟨S, hS⟩ : ∃ z, z = (bestB l).b := ⟨_, rfl⟩
  rw [← hF, ← hS] at HG f3
  rw [← hF, ← hS] at f1
  rw [← hS] at f2
  have HQ := Lib.hid (fun W => sqBet_at hon (i := F) (k := S) (by omega) f2 W)
  obtain ⟨V, hV⟩ : ∃ z, z = sqp l F S := ⟨_, rfl⟩
  rw [← hV] at HQ f3
  have HV := Lib.hid f3
  obtain ⟨b, off, rfl, hb0, _⟩ := ha.two (i := F) (k := S) (by omega) f2
  have HA := Lib.hid ha
  have i0 : (0 : Int) ≤ (F : Int) := by omega
  have i1 : (F : Int) < (l.length : Int) := by omega
  have m0 : (0 : Int) ≤ (S : Int) := by omega
  have m1 : (S : Int) < (l.length : Int) := by omega
  have n1 : F < l.length := by omega
  clear ha hF hS hV hv hon f3
  go_enter Try.func14, Try.ntmps14
  go_upto_region 4 with (go_at_call 22; ((with_reducible refine (HG.out _ (by repeat (first | exact Below.refl _ _ | assumption | refine Below.drew ?_ | refine below_drewN ?_ _ | refine Below.alloc ?_ (by first | omega | (simp; done) | (simp; omega)) _ | refine Below.setCell ?_ (by first | omega | (simp; done) | (simp; omega)) _ | refine Below.trans ?_ (Below.mono (by assumption) (by first | omega | (simp; done) | (simp; omega)))))).mono ?_); rintro e w1 ⟨rfl, hb1⟩; have hs1 := hb1.size; (try simp at hs1)))
  have hB1 : Below w.heap.size w w1 := hb1
  obtain ⟨W1, rfl⟩ : ∃ x, x = w1 := ⟨_, rfl⟩
  obtain ⟨b', off', hbb, hb0', c0, c1, d0, d1⟩ := (HA.out.below hB1).two n1 f2
  simp only [Option.some.injEq, Addr.mk.injEq] at hbb
  obtain ⟨hx1, hx2, _⟩ := hbb
  subst hx1 hx2
  clear hb1 hb0
  have rgc0 := fun d os => cell_regrown c0 d os
  have rgc1 := fun d os => cell_regrown c1 d os
  have rgd0 := fun d os => cell_regrown d0 d os
  have rgd1 := fun d os => cell_regrown d1 d os
  refine wp_region_quiet_below (by kernel_rfl) (by kernel_rfl) ?_
  repeat (quiet_step (first | (with_reducible exact Calls.regrown_of (HQ.out _))))
  refine wpQuiet_nil ?_
  intro _ hw'
  obtain ⟨⟨dq, osq⟩, hw''⟩ := hw'
  subst hw''
  have hq := below_regrown W1 dq osq
  generalize grow (redrawn W1 dq) osq = W2 at hq ⊢
  have hB2 : Below w.heap.size w W2 := hB1.trans (hq.mono (by first | omega | (simp; done) | (simp; omega)))
  clear rgc0 rgc1 rgd0 rgd1 c0 c1 d0 d1 hq hB1 HQ
  go_wp2
  exact bodyPost_ret (v := .tuple #[.int .i64 V, .bool true]) (by simp [results, Try.results14, go_sem, *]) rfl ⟨by rw [HV.out]; rfl, (by repeat (first | exact Below.refl _ _ | assumption | refine Below.drew ?_ | refine below_drewN ?_ _ | refine Below.alloc ?_ (by first | omega | (simp; done) | (simp; omega)) _ | refine Below.setCell ?_ (by first | omega | (simp; done) | (simp; omega)) _ | refine Below.trans ?_ (Below.mono (by assumption) (by first | omega | (simp; done) | (simp; omega)))))⟩
theorem leastI_any (a : Option Addr) (cap : Nat) (l : List (Int × Int)) (hl : l.length ≤ 1048576) {w : World} (ha : PairsAt w a l) :
    Calls Try.prog 14 #[.slice a l.length cap] w fun e w' => e = .returned (.tuple #[.int .i64 (guardI (clOk l) (leastV l)), .bool (clOk l)]) ∧ Below w.heap.size w w' := by
  cases hv : clOk l
  · rw [← hv]; exact leastI_no a cap l hl ha hv
  · rw [← hv]; exact leastI_yes a cap l hl ha hv

end Go.Proofs.Ytmflgcikclikeaa
