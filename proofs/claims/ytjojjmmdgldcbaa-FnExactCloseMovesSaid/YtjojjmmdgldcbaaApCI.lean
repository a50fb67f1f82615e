/- ClosestMoves and LeastOfAll: the program's side. Conditions: those written in each theorem. -/
import Derived.Test.YtjojjmmdgldcbaaApPr
import Derived.Test.YtjojjmmdgldcbaaApLi2
import Derived.Deep.RegionHeld3
import Derived.Deep.DrawnRows
import Derived.IntWalk
import Derived.StillTailTactics
import Derived.Deep.DeepCutAuto
import Derived.Deep.LoopGhost
import Derived.Lib.QuietBelow
namespace Go.Proofs.Ytjojjmmdgldcbaa
open Go.RowKit Go.Sort


attribute [local go_sem ↓] Go.wp_at_zero Go.wp_at_succ

/-- The program's fraction of two moves of the list. -/
def cn2 (l : List (Int × Int × Int × Int × Int)) (i k : Nat) : Int := clN (mc l i 0 - mc l k 0) (mc l i 1 - mc l k 1) (mc l i 2 - mc l k 2) (mc l i 3 - mc l k 3)
def cd2 (l : List (Int × Int × Int × Int × Int)) (i k : Nat) : Int := clD (mc l i 0 - mc l k 0) (mc l i 1 - mc l k 1) (mc l i 2 - mc l k 2) (mc l i 3 - mc l k 3)
theorem leastSq_at {l : List (Int × Int × Int × Int × Int)} {i k : Nat} (h : gt2 l i k = true) (w : World) :
    Calls Try.prog 63 #[.agg #[.int .i64 (mc l i 0), .int .i64 (mc l i 1), .int .i64 (mc l i 2), .int .i64 (mc l i 3), .int .i64 (mc l i 4)], .agg #[.int .i64 (mc l k 0), .int .i64 (mc l k 1), .int .i64 (mc l k 2), .int .i64 (mc l k 3), .int .i64 (mc l k 4)]] w fun e w' => e = .returned (.agg #[.int .i64 (cn2 l i k), .int .i64 (cd2 l i k)]) ∧ Below w.heap.size w w' := by
  obtain ⟨hw, v1, v2, v3, v4⟩ := gt2_way h
  exact leastSq_any (mc l i 0) (mc l i 1) (mc l i 2) (mc l i 3) (mc l i 4) (mc l k 0) (mc l k 1) (mc l k 2) (mc l k 3) (mc l k 4) _ _ _ _ v1 v2 v3 v4 hw h w
theorem below_at {l : List (Int × Int × Int × Int × Int)} {i k f s : Nat} (h1 : gt2 l i k = true) (h2 : gt2 l f s = true) (w : World) :
    Calls Try.prog 80 #[.agg #[.int .i64 (cn2 l i k), .int .i64 (cd2 l i k)], .agg #[.int .i64 (cn2 l f s), .int .i64 (cd2 l f s)]] w fun e w' => e = .returned (.bool (pLt l (i, k) (f, s))) ∧ Below w.heap.size w w' := by
  obtain ⟨c1, c2, c3, _⟩ := cl_bd (gt2_way h1).1
  obtain ⟨d1, d2, d3, _⟩ := cl_bd (gt2_way h2).1
  obtain ⟨x, x0, e1, e2, _⟩ := @cl_eq (mc l i 0 - mc l k 0) (mc l i 1 - mc l k 1) (mc l i 2 - mc l k 2) (mc l i 3 - mc l k 3)
  obtain ⟨y, y0, e3, e4, _⟩ := @cl_eq (mc l f 0 - mc l s 0) (mc l f 1 - mc l s 1) (mc l f 2 - mc l s 2) (mc l f 3 - mc l s 3)
  have hlt : fLt (cn2 l i k) (cd2 l i k) (cn2 l f s) (cd2 l f s) = pLt l (i, k) (f, s) := by
    unfold cn2 cd2 pLt
    rw [e1, e2, e3, e4]
    exact fLt_mul (by omega) (by omega)
  rw [← hlt]
  exact below_any _ _ _ _ c1.1 (by omega) c2 (by omega) d1.1 (by omega) d2 (by omega) w
theorem pair_get {ps : List (Nat × Nat)} {k : Nat} (h : k < ps.length) : (prL ps).getD k [] = [(ps[k].1 : Int), (ps[k].2 : Int)] := by
  unfold prL
  rw [List.getD_eq_getElem?_getD, List.getElem?_map, List.getElem?_eq_getElem h]
  rfl
theorem prL_length (ps : List (Nat × Nat)) : (prL ps).length = ps.length := by simp [prL]
theorem gb_drew {a b : World} {r : Option Nat} (h : a.grownBy b r) : a.grownBy b.drew r := ⟨h.os, h.tape, h.output, h.size, h.block⟩
theorem take_snoc {ps : List (Nat × Nat)} {k : Nat} (h : k < ps.length) : ps.take (k + 1) = ps.take k ++ [ps[k]] := List.take_succ_eq_append_getElem h
theorem two_at {w : World} {ai : Option Addr} {x y : Int} (h : IntsAt w ai [x, y]) : ∃ b off, ai = some ⟨b, off, none⟩ ∧ w.cell? ⟨b, off, none⟩ = some (.int .i64 x) ∧ w.cell? ⟨b, off + 1, none⟩ = some (.int .i64 y) := by
  obtain ⟨b, off, ha, h0⟩ := h 0 (by simp)
  obtain ⟨b', off', ha', h1⟩ := h 1 (by simp)
  have e := ha.symm.trans ha'
  simp only [Option.some.injEq, Addr.mk.injEq] at e
  obtain ⟨e1, e2, _⟩ := e
  subst e1 e2
  exact ⟨b, off, ha, by simpa using h0, by simpa using h1⟩

set_option maxRecDepth 100000 in
set_option maxHeartbeats 8000000 in
theorem closestM_yes (a : Option Addr) (cap : Nat) (l : List (Int × Int × Int × Int × Int)) (hok : mvsOk l = true) {w : World} (ha : MovesAt w a l) :
    Calls Try.prog 33 #[.slice a l.length cap] w fun e w' => e = .returned (.tuple #[.int .i64 ((clo l).1 : Int), .int .i64 ((clo l).2 : Int), .bool true]) ∧ Below w.heap.size w w' := by
  obtain ⟨n2, n12, hall⟩ := mvsOk_iff hok
  have HG := Lib.hid (fun (W : World) (hb : Below w.heap.size w W) => allGo_any a cap l (by omega) (ha.below hb))
  rw [hok] at HG
  have HPR := Lib.hid (fun W => pairsOf_any l.length n12 W)
  have HA := Lib.hid ha
  have HALL := Lib.hid hall
  have hclo : clo l = bst l (allP2 l.length) := rfl
  have HPM := Lib.hid (fun p (hp : p ∈ allP2 l.length) => pall_mem hp)
  have hpl := pall_len l.length l.length
  have hpl2 : l.length * l.length ≤ 12 * 12 := Nat.mul_le_mul n12 n12
  have hpl3 : (allP2 l.length).length ≤ 144 := Nat.le_trans hpl hpl2
  obtain ⟨PS, hPS⟩ : ∃ x, x = allP2 l.length := ⟨_, rfl⟩
  rw [← hPS] at HPR hclo HPM hpl3
  have HCLO := Lib.hid hclo
  obtain ⟨b, off, rfl, hb0, _⟩ := ha.one (by omega)
  clear ha hall hclo hok hpl hpl2 hPS
  have HL := Lib.hid (fun W => leastSq_at (HALL.out 0 1 (by omega) (by omega)) W)
  have j0 : 0 < l.length := by omega
  have j1 : 1 < l.length := by omega
  have j2 : (1 : Int) < (l.length : Int) := by omega
  obtain ⟨q1, q2, q3, q4, q5, q6, q7⟩ := nadd
  go_enter Try.func33, Try.ntmps33
  go_upto_region 4 with (go_at_call 78; ((with_reducible refine (HG.out _ (by repeat (first | exact Below.refl _ _ | assumption | refine Below.drew ?_ | refine below_drewN ?_ _ | refine Below.alloc ?_ (by first | omega | (simp; done) | (simp; omega)) _ | refine Below.setCell ?_ (by first | omega | (simp; done) | (simp; omega)) _ | refine Below.trans ?_ (Below.mono (by assumption) (by first | omega | (simp; done) | (simp; omega)))))).mono ?_); rintro e w1 ⟨rfl, hb1⟩; have hs1 := hb1.size; (try simp at hs1)))
  have hB1 : Below w.heap.size w w1 := hb1
  obtain ⟨W1, rfl⟩ : ∃ x, x = w1 := ⟨_, rfl⟩
  obtain ⟨b', off', hbb, hb0', c0, c1, c2, c3, c4, d0, d1, d2, d3, d4⟩ := (HA.out.below hB1).one (by omega)
  simp only [Option.some.injEq, Addr.mk.injEq] at hbb
  obtain ⟨hx1, hx2, _⟩ := hbb
  subst hx1 hx2
  have hsW := hB1.size
  clear hb1 hb0
  go_cut [7] (fun s wx => ∃ g : Nat, (s = .pointer (some ⟨g, 0, none⟩) ∧ W1.heap.size ≤ g ∧ g < wx.heap.size ∧ wx.cell? ⟨g, 0, none⟩ = some (.int .i64 (cn2 l 0 1)) ∧ wx.cell? ⟨g, 1, none⟩ = some (.int .i64 (cd2 l 0 1)) ∧ wx.frozen? ⟨g, 0, none⟩ = false ∧ wx.frozen? ⟨g, 1, none⟩ = false ∧ Below W1.heap.size W1 wx))
  case first =>
    go_region_held3 (fun w' => w'.cell? ⟨b, off, none⟩ = some (.int .i64 (mc l 0 0)) ∧ w'.cell? ⟨b, off + 1, none⟩ = some (.int .i64 (mc l 0 1)) ∧ w'.cell? ⟨b, off + 2, none⟩ = some (.int .i64 (mc l 0 2)) ∧ w'.cell? ⟨b, off + 3, none⟩ = some (.int .i64 (mc l 0 3)) ∧ w'.cell? ⟨b, off + 4, none⟩ = some (.int .i64 (mc l 0 4)) ∧ w'.cell? ⟨b, off + 5, none⟩ = some (.int .i64 (mc l 1 0)) ∧ w'.cell? ⟨b, off + 6, none⟩ = some (.int .i64 (mc l 1 1)) ∧ w'.cell? ⟨b, off + 7, none⟩ = some (.int .i64 (mc l 1 2)) ∧ w'.cell? ⟨b, off + 8, none⟩ = some (.int .i64 (mc l 1 3)) ∧ w'.cell? ⟨b, off + 9, none⟩ = some (.int .i64 (mc l 1 4))) ((first | (rename_i hH K0 hK0; obtain ⟨k0, k1, k2, k3, k4, k5, k6, k7, k8, k9⟩ := hH; first | (with_reducible exact ⟨k0, k1, k2, k3, k4, k5, k6, k7, k8, k9⟩) | (with_reducible exact ⟨(hb1.cell (World.block_lt_of_cell? _ _ k0)).trans k0, (hb1.cell (World.block_lt_of_cell? _ _ k1)).trans k1, (hb1.cell (World.block_lt_of_cell? _ _ k2)).trans k2, (hb1.cell (World.block_lt_of_cell? _ _ k3)).trans k3, (hb1.cell (World.block_lt_of_cell? _ _ k4)).trans k4, (hb1.cell (World.block_lt_of_cell? _ _ k5)).trans k5, (hb1.cell (World.block_lt_of_cell? _ _ k6)).trans k6, (hb1.cell (World.block_lt_of_cell? _ _ k7)).trans k7, (hb1.cell (World.block_lt_of_cell? _ _ k8)).trans k8, (hb1.cell (World.block_lt_of_cell? _ _ k9)).trans k9⟩) | (with_reducible exact ⟨(World.cell?_alloc_past _ _ _ (World.block_lt_of_cell? _ _ k0)).trans k0, (World.cell?_alloc_past _ _ _ (World.block_lt_of_cell? _ _ k1)).trans k1, (World.cell?_alloc_past _ _ _ (World.block_lt_of_cell? _ _ k2)).trans k2, (World.cell?_alloc_past _ _ _ (World.block_lt_of_cell? _ _ k3)).trans k3, (World.cell?_alloc_past _ _ _ (World.block_lt_of_cell? _ _ k4)).trans k4, (World.cell?_alloc_past _ _ _ (World.block_lt_of_cell? _ _ k5)).trans k5, (World.cell?_alloc_past _ _ _ (World.block_lt_of_cell? _ _ k6)).trans k6, (World.cell?_alloc_past _ _ _ (World.block_lt_of_cell? _ _ k7)).trans k7, (World.cell?_alloc_past _ _ _ (World.block_lt_of_cell? _ _ k8)).trans k8, (World.cell?_alloc_past _ _ _ (World.block_lt_of_cell? _ _ k9)).trans k9⟩) | (with_reducible exact ⟨(World.cell?_alloc_past _ _ _ (by first | omega | (dsimp only; omega))).trans ((World.cell?_alloc_past (.cells #[.int .i64 0, .int .i64 0] 75) _ _ (by first | omega | (dsimp only; omega))).symm.trans k0), (World.cell?_alloc_past _ _ _ (by first | omega | (dsimp only; omega))).trans ((World.cell?_alloc_past (.cells #[.int .i64 0, .int .i64 0] 75) _ _ (by first | omega | (dsimp only; omega))).symm.trans k1), (World.cell?_alloc_past _ _ _ (by first | omega | (dsimp only; omega))).trans ((World.cell?_alloc_past (.cells #[.int .i64 0, .int .i64 0] 75) _ _ (by first | omega | (dsimp only; omega))).symm.trans k2), (World.cell?_alloc_past _ _ _ (by first | omega | (dsimp only; omega))).trans ((World.cell?_alloc_past (.cells #[.int .i64 0, .int .i64 0] 75) _ _ (by first | omega | (dsimp only; omega))).symm.trans k3), (World.cell?_alloc_past _ _ _ (by first | omega | (dsimp only; omega))).trans ((World.cell?_alloc_past (.cells #[.int .i64 0, .int .i64 0] 75) _ _ (by first | omega | (dsimp only; omega))).symm.trans k4), (World.cell?_alloc_past _ _ _ (by first | omega | (dsimp only; omega))).trans ((World.cell?_alloc_past (.cells #[.int .i64 0, .int .i64 0] 75) _ _ (by first | omega | (dsimp only; omega))).symm.trans k5), (World.cell?_alloc_past _ _ _ (by first | omega | (dsimp only; omega))).trans ((World.cell?_alloc_past (.cells #[.int .i64 0, .int .i64 0] 75) _ _ (by first | omega | (dsimp only; omega))).symm.trans k6), (World.cell?_alloc_past _ _ _ (by first | omega | (dsimp only; omega))).trans ((World.cell?_alloc_past (.cells #[.int .i64 0, .int .i64 0] 75) _ _ (by first | omega | (dsimp only; omega))).symm.trans k7), (World.cell?_alloc_past _ _ _ (by first | omega | (dsimp only; omega))).trans ((World.cell?_alloc_past (.cells #[.int .i64 0, .int .i64 0] 75) _ _ (by first | omega | (dsimp only; omega))).symm.trans k8), (World.cell?_alloc_past _ _ _ (by first | omega | (dsimp only; omega))).trans ((World.cell?_alloc_past (.cells #[.int .i64 0, .int .i64 0] 75) _ _ (by first | omega | (dsimp only; omega))).symm.trans k9)⟩) | (with_reducible exact ⟨(World.cell?_setCell_far _ _ _ _ (by intro e; dsimp only at e; omega)).trans ((World.cell?_setCell_far _ _ _ _ (by intro e; dsimp only at e; omega)).trans (k0)), (World.cell?_setCell_far _ _ _ _ (by intro e; dsimp only at e; omega)).trans ((World.cell?_setCell_far _ _ _ _ (by intro e; dsimp only at e; omega)).trans (k1)), (World.cell?_setCell_far _ _ _ _ (by intro e; dsimp only at e; omega)).trans ((World.cell?_setCell_far _ _ _ _ (by intro e; dsimp only at e; omega)).trans (k2)), (World.cell?_setCell_far _ _ _ _ (by intro e; dsimp only at e; omega)).trans ((World.cell?_setCell_far _ _ _ _ (by intro e; dsimp only at e; omega)).trans (k3)), (World.cell?_setCell_far _ _ _ _ (by intro e; dsimp only at e; omega)).trans ((World.cell?_setCell_far _ _ _ _ (by intro e; dsimp only at e; omega)).trans (k4)), (World.cell?_setCell_far _ _ _ _ (by intro e; dsimp only at e; omega)).trans ((World.cell?_setCell_far _ _ _ _ (by intro e; dsimp only at e; omega)).trans (k5)), (World.cell?_setCell_far _ _ _ _ (by intro e; dsimp only at e; omega)).trans ((World.cell?_setCell_far _ _ _ _ (by intro e; dsimp only at e; omega)).trans (k6)), (World.cell?_setCell_far _ _ _ _ (by intro e; dsimp only at e; omega)).trans ((World.cell?_setCell_far _ _ _ _ (by intro e; dsimp only at e; omega)).trans (k7)), (World.cell?_setCell_far _ _ _ _ (by intro e; dsimp only at e; omega)).trans ((World.cell?_setCell_far _ _ _ _ (by intro e; dsimp only at e; omega)).trans (k8)), (World.cell?_setCell_far _ _ _ _ (by intro e; dsimp only at e; omega)).trans ((World.cell?_setCell_far _ _ _ _ (by intro e; dsimp only at e; omega)).trans (k9))⟩)) | (refine ⟨?_, ?_, ?_, ?_, ?_, ?_, ?_, ?_, ?_, ?_⟩ <;> first | (go_keep; done) | (simp [*, World.cell?_alloc_past, World.cell?_setCell_far]; done) | (simp [*, World.cell?_alloc_past, World.cell?_alloc_at, World.cell?_setCell_far]; done) | (go_simp; done))))
      (first | (go_at_call 63; ((with_reducible refine (HL.out _).mono ?_); rintro e w1 ⟨rfl, hb1⟩; have hs1 := hb1.size; (try simp at hs1); have hk1 := call_facts (fun b h => h) hb1 (Nat.le_refl _); have hl1 := hk1.1)))
    all_goals
      go_wp2
      go_meet
      refine ⟨_, rfl, ?_, ?_, ?_, ?_, ?_, ?_, (by repeat (first | exact Below.refl _ _ | assumption | refine Below.drew ?_ | refine below_drewN ?_ _ | refine Below.alloc ?_ (by first | omega | (simp; done) | (simp; omega)) _ | refine Below.setCell ?_ (by first | omega | (simp; done) | (simp; omega)) _ | refine Below.trans ?_ (Below.mono (by assumption) (by first | omega | (simp; done) | (simp; omega)))))⟩
      all_goals first | (omega; done) | (simp; done) | (simp; omega) | (go_simp; done) | (simp [*, World.cell?_alloc_past, World.cell?_alloc_at]; done) | (trace_state; sorry)
  case rest =>
    obtain ⟨g, rfl, hg0, hg1, b0, b1, b2, b3, hbx⟩ := hcut
    obtain ⟨W2, rfl⟩ : ∃ x, x = wc := ⟨_, rfl⟩
    have hB2 : Below w.heap.size w W2 := hB1.trans (hbx.mono (by first | omega | (simp; done) | (simp; omega)))
    clear hbx c0 c1 c2 c3 c4 d0 d1 d2 d3 d4 hB1 HL HG
    have hgw : w.heap.size ≤ g := by omega
    clear hg0 hsW hb0'
    go_wp2_with (go_at_call 79; (refine (HPR.out _).mono ?_; rintro e w3 ⟨v, rfl, ⟨Z, hZ, hrows⟩, hb3⟩; obtain ⟨az, capz, rfl, hM⟩ := hZ.view; rw [hrows] at hM; rw [hrows, prL_length]; have hs3 := hb3.size))
    have HM0 := Lib.hid hM
    replace b0 := (hb3.cell (p := ⟨g, 0, none⟩) (by first | omega | (simp; done) | (simp; omega))).trans b0
    replace b1 := (hb3.cell (p := ⟨g, 1, none⟩) (by first | omega | (simp; done) | (simp; omega))).trans b1
    replace b2 := (hb3.frozen (p := ⟨g, 0, none⟩) (by first | omega | (simp; done) | (simp; omega))).trans b2
    replace b3 := (hb3.frozen (p := ⟨g, 1, none⟩) (by first | omega | (simp; done) | (simp; omega))).trans b3
    have hB3 : Below w.heap.size w w3 := hB2.trans (hb3.mono (by first | omega | (simp; done) | (simp; omega)))
    have hg3 : g < w3.heap.size := by omega
    clear hM hZ hrows hb3 hB2 HPR
    go_loopw [5, 6, 29] (fun f s i wr => ∃ (k F S : Nat), k ≤ PS.length ∧ F < l.length ∧ S < l.length ∧ f = .int .i64 (F : Int) ∧ s = .int .i64 (S : Int) ∧ i = .int .i64 (k : Int) ∧ Hid ((F, S) = bst l (PS.take k)) ∧ wr.cell? ⟨g, 0, none⟩ = some (.int .i64 (cn2 l F S)) ∧ wr.cell? ⟨g, 1, none⟩ = some (.int .i64 (cd2 l F S)) ∧ wr.frozen? ⟨g, 0, none⟩ = false ∧ wr.frozen? ⟨g, 1, none⟩ = false ∧ Hid (MatAt wr W2.heap.size w3.heap.size az (prL PS)) ∧ Below w.heap.size w wr ∧ g < wr.heap.size) (fun _ _ i _ => PS.length - (intOf i).toNat)
    case atStart => exact ⟨0, 0, 1, Nat.zero_le _, j0, j1, rfl, rfl, rfl, Lib.hid (by rw [List.take_zero]; rfl), b0, b1, b2, b3, HM0, hB3, hg3⟩
    case round =>
      clear b0 b1 b2 b3 HM0 hB3 hg3
      obtain ⟨k, F, S, hk, hF, hS, rfl, rfl, rfl, HBS, b0, b1, b2, b3, HM, hbr, hgr⟩ := hrel
      obtain ⟨wo, rfl⟩ : ∃ wo, wo = wr := ⟨_, rfl⟩
      have hsr := hbr.size
      by_cases hlt : k < PS.length
      · obtain ⟨bz, oz, ai, ci, haz, hbz, cz, hI, _⟩ := HM.out k (by rw [prL_length]; exact hlt)
        subst haz
        rw [pair_get hlt] at cz hI
        obtain ⟨hi, hij, hj⟩ := HPM.out _ (List.getElem_mem hlt)
        have htk := take_snoc hlt
        obtain ⟨p, hp⟩ : ∃ p, p = PS[k] := ⟨_, rfl⟩
        rw [← hp] at cz hI hi hij hj htk
        clear hp
        obtain ⟨i, j⟩ := p
        dsimp only at cz hI hi hij hj
        have hj' : i < l.length := by omega
        obtain ⟨br, or', rfl, x0, x1⟩ := two_at hI
        clear hI
        have HTK := Lib.hid htk
        clear htk
        have i0 : (0 : Int) ≤ (k : Int) := by omega
        have i1 : (k : Int) < (PS.length : Int) := by omega
        have m0 : (0 : Int) ≤ (i : Int) := by omega
        have m1 : (i : Int) < (l.length : Int) := by omega
        have m2 : (0 : Int) ≤ (j : Int) := by omega
        have m3 : (j : Int) < (l.length : Int) := by omega
        have HL := Lib.hid (fun W => leastSq_at (HALL.out i j hj' hj) W)
        have HBL := Lib.hid (fun W => below_at (HALL.out i j hj' hj) (HALL.out F S hF hS) W)
        obtain ⟨N, hN⟩ : ∃ z, z = cn2 l i j := ⟨_, rfl⟩
        obtain ⟨D, hD⟩ : ∃ z, z = cd2 l i j := ⟨_, rfl⟩
        obtain ⟨N', hN'⟩ : ∃ z, z = cn2 l F S := ⟨_, rfl⟩
        obtain ⟨D', hD'⟩ : ∃ z, z = cd2 l F S := ⟨_, rfl⟩
        rw [← hN, ← hD] at HL HBL
        rw [← hN', ← hD'] at HBL
        rw [← hN'] at b0
        rw [← hD'] at b1
        have HN := Lib.hid hN
        have HD := Lib.hid hD
        have HN' := Lib.hid hN'
        have HD' := Lib.hid hD'
        clear hN hD hN' hD'
        go_upto_region 8 with fail
        have rgx0 := fun d os => cell_regrown x0 d os
        have rgx1 := fun d os => cell_regrown x1 d os
        refine wp_region_quiet_below (by kernel_rfl) (by kernel_rfl) ?_
        repeat (quiet_step (first | fail))
        refine wpQuiet_nil ?_
        intro _ hw'
        obtain ⟨⟨dq, osq⟩, hw''⟩ := hw'
        subst hw''
        have hq := below_regrown wo dq osq
        generalize grow (redrawn wo dq) osq = W4 at hq ⊢
        clear rgx0 rgx1 x0 x1 cz
        have hz4 := hq.size
        replace b0 := (hq.cell (p := ⟨g, 0, none⟩) (by first | omega | (simp; done) | (simp; omega))).trans b0
        replace b1 := (hq.cell (p := ⟨g, 1, none⟩) (by first | omega | (simp; done) | (simp; omega))).trans b1
        replace b2 := (hq.frozen (p := ⟨g, 0, none⟩) (by first | omega | (simp; done) | (simp; omega))).trans b2
        replace b3 := (hq.frozen (p := ⟨g, 1, none⟩) (by first | omega | (simp; done) | (simp; omega))).trans b3
        have HM4 := Lib.hid (HM.out.below hq)
        have hB4 : Below w.heap.size w W4 := hbr.trans (hq.mono (by first | omega | (simp; done) | (simp; omega)))
        have hg4 : g < W4.heap.size := by omega
        clear HM hbr hgr hq
        obtain ⟨b', off', hbb, hb0', c0, c1, c2, c3, c4, d0, d1, d2, d3, d4⟩ := (HA.out.below hB4).two hj' hj
        simp only [Option.some.injEq, Addr.mk.injEq] at hbb
        obtain ⟨hx1, hx2, _⟩ := hbb
        subst hx1 hx2
        go_upto_region 9 with fail
        go_cut [12] (fun s wx => ∃ h : Nat, (s = .pointer (some ⟨h, 0, none⟩) ∧ W4.heap.size ≤ h ∧ h < wx.heap.size ∧ wx.cell? ⟨h, 0, none⟩ = some (.int .i64 N) ∧ wx.cell? ⟨h, 1, none⟩ = some (.int .i64 D) ∧ wx.frozen? ⟨h, 0, none⟩ = false ∧ wx.frozen? ⟨h, 1, none⟩ = false ∧ Below W4.heap.size W4 wx))
        case first =>
          go_region_held3 (fun w' => w'.cell? ⟨b, off + i * 5, none⟩ = some (.int .i64 (mc l i 0)) ∧ w'.cell? ⟨b, off + i * 5 + 1, none⟩ = some (.int .i64 (mc l i 1)) ∧ w'.cell? ⟨b, off + i * 5 + 2, none⟩ = some (.int .i64 (mc l i 2)) ∧ w'.cell? ⟨b, off + i * 5 + 3, none⟩ = some (.int .i64 (mc l i 3)) ∧ w'.cell? ⟨b, off + i * 5 + 4, none⟩ = some (.int .i64 (mc l i 4)) ∧ w'.cell? ⟨b, off + j * 5, none⟩ = some (.int .i64 (mc l j 0)) ∧ w'.cell? ⟨b, off + j * 5 + 1, none⟩ = some (.int .i64 (mc l j 1)) ∧ w'.cell? ⟨b, off + j * 5 + 2, none⟩ = some (.int .i64 (mc l j 2)) ∧ w'.cell? ⟨b, off + j * 5 + 3, none⟩ = some (.int .i64 (mc l j 3)) ∧ w'.cell? ⟨b, off + j * 5 + 4, none⟩ = some (.int .i64 (mc l j 4))) ((first | (rename_i hH K0 hK0; obtain ⟨k0, k1, k2, k3, k4, k5, k6, k7, k8, k9⟩ := hH; first | (with_reducible exact ⟨k0, k1, k2, k3, k4, k5, k6, k7, k8, k9⟩) | (with_reducible exact ⟨(hb1.cell (World.block_lt_of_cell? _ _ k0)).trans k0, (hb1.cell (World.block_lt_of_cell? _ _ k1)).trans k1, (hb1.cell (World.block_lt_of_cell? _ _ k2)).trans k2, (hb1.cell (World.block_lt_of_cell? _ _ k3)).trans k3, (hb1.cell (World.block_lt_of_cell? _ _ k4)).trans k4, (hb1.cell (World.block_lt_of_cell? _ _ k5)).trans k5, (hb1.cell (World.block_lt_of_cell? _ _ k6)).trans k6, (hb1.cell (World.block_lt_of_cell? _ _ k7)).trans k7, (hb1.cell (World.block_lt_of_cell? _ _ k8)).trans k8, (hb1.cell (World.block_lt_of_cell? _ _ k9)).trans k9⟩) | (with_reducible exact ⟨(World.cell?_alloc_past _ _ _ (World.block_lt_of_cell? _ _ k0)).trans k0, (World.cell?_alloc_past _ _ _ (World.block_lt_of_cell? _ _ k1)).trans k1, (World.cell?_alloc_past _ _ _ (World.block_lt_of_cell? _ _ k2)).trans k2, (World.cell?_alloc_past _ _ _ (World.block_lt_of_cell? _ _ k3)).trans k3, (World.cell?_alloc_past _ _ _ (World.block_lt_of_cell? _ _ k4)).trans k4, (World.cell?_alloc_past _ _ _ (World.block_lt_of_cell? _ _ k5)).trans k5, (World.cell?_alloc_past _ _ _ (World.block_lt_of_cell? _ _ k6)).trans k6, (World.cell?_alloc_past _ _ _ (World.block_lt_of_cell? _ _ k7)).trans k7, (World.cell?_alloc_past _ _ _ (World.block_lt_of_cell? _ _ k8)).trans k8, (World.cell?_alloc_past _ _ _ (World.block_lt_of_cell? _ _ k9)).trans k9⟩) | (with_reducible exact ⟨(World.cell?_alloc_past _ _ _ (by first | omega | (dsimp only; omega))).trans ((World.cell?_alloc_past (.cells #[.int .i64 0, .int .i64 0] 75) _ _ (by first | omega | (dsimp only; omega))).symm.trans k0), (World.cell?_alloc_past _ _ _ (by first | omega | (dsimp only; omega))).trans ((World.cell?_alloc_past (.cells #[.int .i64 0, .int .i64 0] 75) _ _ (by first | omega | (dsimp only; omega))).symm.trans k1), (World.cell?_alloc_past _ _ _ (by first | omega | (dsimp only; omega))).trans ((World.cell?_alloc_past (.cells #[.int .i64 0, .int .i64 0] 75) _ _ (by first | omega | (dsimp only; omega))).symm.trans k2), (World.cell?_alloc_past _ _ _ (by first | omega | (dsimp only; omega))).trans ((World.cell?_alloc_past (.cells #[.int .i64 0, .int .i64 0] 75) _ _ (by first | omega | (dsimp only; omega))).symm.trans k3), (World.cell?_alloc_past _ _ _ (by first | omega | (dsimp only; omega))).trans ((World.cell?_alloc_past (.cells #[.int .i64 0, .int .i64 0] 75) _ _ (by first | omega | (dsimp only; omega))).symm.trans k4), (World.cell?_alloc_past _ _ _ (by first | omega | (dsimp only; omega))).trans ((World.cell?_alloc_past (.cells #[.int .i64 0, .int .i64 0] 75) _ _ (by first | omega | (dsimp only; omega))).symm.trans k5), (World.cell?_alloc_past _ _ _ (by first | omega | (dsimp only; omega))).trans ((World.cell?_alloc_past (.cells #[.int .i64 0, .int .i64 0] 75) _ _ (by first | omega | (dsimp only; omega))).symm.trans k6), (World.cell?_alloc_past _ _ _ (by first | omega | (dsimp only; omega))).trans ((World.cell?_alloc_past (.cells #[.int .i64 0, .int .i64 0] 75) _ _ (by first | omega | (dsimp only; omega))).symm.trans k7), (World.cell?_alloc_past _ _ _ (by first | omega | (dsimp only; omega))).trans ((World.cell?_alloc_past (.cells #[.int .i64 0, .int .i64 0] 75) _ _ (by first | omega | (dsimp only; omega))).symm.trans k8), (World.cell?_alloc_past _ _ _ (by first | omega | (dsimp only; omega))).trans ((World.cell?_alloc_past (.cells #[.int .i64 0, .int .i64 0] 75) _ _ (by first | omega | (dsimp only; omega))).symm.trans k9)⟩) | (with_reducible exact ⟨(World.cell?_setCell_far _ _ _ _ (by intro e; dsimp only at e; omega)).trans ((World.cell?_setCell_far _ _ _ _ (by intro e; dsimp only at e; omega)).trans (k0)), (World.cell?_setCell_far _ _ _ _ (by intro e; dsimp only at e; omega)).trans ((World.cell?_setCell_far _ _ _ _ (by intro e; dsimp only at e; omega)).trans (k1)), (World.cell?_setCell_far _ _ _ _ (by intro e; dsimp only at e; omega)).trans ((World.cell?_setCell_far _ _ _ _ (by intro e; dsimp only at e; omega)).trans (k2)), (World.cell?_setCell_far _ _ _ _ (by intro e; dsimp only at e; omega)).trans ((World.cell?_setCell_far _ _ _ _ (by intro e; dsimp only at e; omega)).trans (k3)), (World.cell?_setCell_far _ _ _ _ (by intro e; dsimp only at e; omega)).trans ((World.cell?_setCell_far _ _ _ _ (by intro e; dsimp only at e; omega)).trans (k4)), (World.cell?_setCell_far _ _ _ _ (by intro e; dsimp only at e; omega)).trans ((World.cell?_setCell_far _ _ _ _ (by intro e; dsimp only at e; omega)).trans (k5)), (World.cell?_setCell_far _ _ _ _ (by intro e; dsimp only at e; omega)).trans ((World.cell?_setCell_far _ _ _ _ (by intro e; dsimp only at e; omega)).trans (k6)), (World.cell?_setCell_far _ _ _ _ (by intro e; dsimp only at e; omega)).trans ((World.cell?_setCell_far _ _ _ _ (by intro e; dsimp only at e; omega)).trans (k7)), (World.cell?_setCell_far _ _ _ _ (by intro e; dsimp only at e; omega)).trans ((World.cell?_setCell_far _ _ _ _ (by intro e; dsimp only at e; omega)).trans (k8)), (World.cell?_setCell_far _ _ _ _ (by intro e; dsimp only at e; omega)).trans ((World.cell?_setCell_far _ _ _ _ (by intro e; dsimp only at e; omega)).trans (k9))⟩)) | (refine ⟨?_, ?_, ?_, ?_, ?_, ?_, ?_, ?_, ?_, ?_⟩ <;> first | (go_keep; done) | (simp [*, World.cell?_alloc_past, World.cell?_setCell_far]; done) | (simp [*, World.cell?_alloc_past, World.cell?_alloc_at, World.cell?_setCell_far]; done) | (go_simp; done))))
            (first | (go_at_call 63; ((with_reducible refine (HL.out _).mono ?_); rintro e w1 ⟨rfl, hb1⟩; have hs1 := hb1.size; (try simp at hs1); have hk1 := call_facts (fun b h => h) hb1 (Nat.le_refl _); have hl1 := hk1.1)))
          all_goals
            go_wp2
            go_meet
            refine ⟨_, rfl, ?_, ?_, ?_, ?_, ?_, ?_, (by repeat (first | exact Below.refl _ _ | assumption | refine Below.drew ?_ | refine below_drewN ?_ _ | refine Below.alloc ?_ (by first | omega | (simp; done) | (simp; omega)) _ | refine Below.setCell ?_ (by first | omega | (simp; done) | (simp; omega)) _ | refine Below.trans ?_ (Below.mono (by assumption) (by first | omega | (simp; done) | (simp; omega)))))⟩
            all_goals first | (omega; done) | (simp; done) | (simp; omega) | (go_simp; done) | (simp [*, World.cell?_alloc_past, World.cell?_alloc_at]; done)
        case rest =>
          obtain ⟨h, rfl, hh0, hh1, e0, e1, e2, e3, hbx⟩ := hcut
          obtain ⟨W5, rfl⟩ : ∃ x, x = wc := ⟨_, rfl⟩
          clear c0 c1 c2 c3 c4 d0 d1 d2 d3 d4 HL
          have hz5 := hbx.size
          replace b0 := (hbx.cell (p := ⟨g, 0, none⟩) (by first | omega | (simp; done) | (simp; omega))).trans b0
          replace b1 := (hbx.cell (p := ⟨g, 1, none⟩) (by first | omega | (simp; done) | (simp; omega))).trans b1
          replace b2 := (hbx.frozen (p := ⟨g, 0, none⟩) (by first | omega | (simp; done) | (simp; omega))).trans b2
          replace b3 := (hbx.frozen (p := ⟨g, 1, none⟩) (by first | omega | (simp; done) | (simp; omega))).trans b3
          have HM5 := Lib.hid (HM4.out.below hbx)
          have hB5 : Below w.heap.size w W5 := hB4.trans (hbx.mono (by first | omega | (simp; done) | (simp; omega)))
          have hg5 : g < W5.heap.size := by omega
          have y0 : ¬ g = h := by omega
          have y1 : ¬ h = g := by omega
          clear HM4 hB4 hbx hg4 e2 e3
          cases hc : pLt l (i, j) (F, S)
          all_goals rw [hc] at HBL
          · have HB2 : Hid ((F, S) = bst l (PS.take (k + 1))) := Lib.hid (by rw [HTK.out, bst_no (by rw [← HBS.out]; exact hc)]; exact HBS.out)
            clear hc HBS
            go_wp2_with (go_at_call 80; ((with_reducible refine (HBL.out _).mono ?_); rintro e w1 ⟨rfl, hb1⟩))
            have hs1 := hb1.size
            go_roundw
            case rel => exact ⟨k + 1, F, S, by omega, hF, hS, rfl, rfl, by go_num, HB2, by rw [← HN'.out]; exact (hb1.cell (p := ⟨g, 0, none⟩) (by first | omega | (simp; done) | (simp; omega))).trans b0, by rw [← HD'.out]; exact (hb1.cell (p := ⟨g, 1, none⟩) (by first | omega | (simp; done) | (simp; omega))).trans b1, (hb1.frozen (p := ⟨g, 0, none⟩) (by first | omega | (simp; done) | (simp; omega))).trans b2, (hb1.frozen (p := ⟨g, 1, none⟩) (by first | omega | (simp; done) | (simp; omega))).trans b3, Lib.hid (HM5.out.below hb1), hB5.trans (hb1.mono (by first | omega | (simp; done) | (simp; omega))), by omega⟩
            case measure => simp [intOf]; omega
          · have HB2 : Hid ((i, j) = bst l (PS.take (k + 1))) := Lib.hid (by rw [HTK.out, bst_yes (by rw [← HBS.out]; exact hc)])
            clear hc HBS
            go_upto_region 11 with (go_at_call 80; ((with_reducible refine (HBL.out _).mono ?_); rintro e w1 ⟨rfl, hb1⟩))
            have hs1 := hb1.size
            replace b0 := (hb1.cell (p := ⟨g, 0, none⟩) (by first | omega | (simp; done) | (simp; omega))).trans b0
            replace b1 := (hb1.cell (p := ⟨g, 1, none⟩) (by first | omega | (simp; done) | (simp; omega))).trans b1
            replace b2 := (hb1.frozen (p := ⟨g, 0, none⟩) (by first | omega | (simp; done) | (simp; omega))).trans b2
            replace b3 := (hb1.frozen (p := ⟨g, 1, none⟩) (by first | omega | (simp; done) | (simp; omega))).trans b3
            replace e0 := (hb1.cell (p := ⟨h, 0, none⟩) (by first | omega | (simp; done) | (simp; omega))).trans e0
            replace e1 := (hb1.cell (p := ⟨h, 1, none⟩) (by first | omega | (simp; done) | (simp; omega))).trans e1
            have HM6 := Lib.hid (HM5.out.below hb1)
            have hB6 : Below w.heap.size w w1 := hB5.trans (hb1.mono (by first | omega | (simp; done) | (simp; omega)))
            have hg6 : g < w1.heap.size := by omega
            clear HM5 hB5 hb1
            go_region_held3 (fun w' => w'.cell? ⟨h, 0, none⟩ = some (.int .i64 N) ∧ w'.cell? ⟨h, 1, none⟩ = some (.int .i64 D)) (refine ⟨?_, ?_⟩ <;> first | (go_keep; done) | (simp [*, World.cell?_alloc_past, World.cell?_setCell_far]; done) | (simp [*, World.cell?_alloc_past, World.cell?_alloc_at, World.cell?_setCell_far]; done) | (go_simp; done)) (fail)
            all_goals
              go_wp2
              go_roundw
              case rel =>
                refine ⟨k + 1, i, j, by omega, hj', hj, rfl, rfl, by go_num, HB2, ?_, ?_, ?_, ?_, Lib.hid (HM6.out.other (r := some g) (by repeat (first | with_reducible exact gb_refl _ _ | with_reducible refine gb_drew ?_ | with_reducible refine gb_trans ?_ (gb_set _ _ _ _))) (fun x hx => by have := Option.some.inj hx; omega)), (by repeat (first | exact Below.refl _ _ | assumption | refine Below.drew ?_ | refine below_drewN ?_ _ | refine Below.alloc ?_ (by first | omega | (simp; done) | (simp; omega)) _ | refine Below.setCell ?_ (by first | omega | (simp; done) | (simp; omega)) _ | refine Below.trans ?_ (Below.mono (by assumption) (by first | omega | (simp; done) | (simp; omega))))), ?_⟩
                · rw [← HN.out]; go_simp
                · rw [← HD.out]; go_simp
                all_goals first | (go_simp; done) | (simp; omega) | (trace_state; sorry)
              case measure => simp [intOf]; omega
      · obtain rfl : k = PS.length := by omega
        have E0 : Hid (clo l = (F, S)) := Lib.hid (by rw [HCLO.out]; have := HBS.out; rw [List.take_length] at this; exact this.symm)
        go_wp2
        exact bodyPost_ret (v := .tuple #[.int .i64 (F : Int), .int .i64 (S : Int), .bool true]) (by simp [results, Try.results33, go_sem, *]) rfl ⟨by rw [E0.out], (by repeat (first | exact Below.refl _ _ | assumption | refine Below.drew ?_ | refine below_drewN ?_ _ | refine Below.alloc ?_ (by first | omega | (simp; done) | (simp; omega)) _ | refine Below.setCell ?_ (by first | omega | (simp; done) | (simp; omega)) _ | refine Below.trans ?_ (Below.mono (by assumption) (by first | omega | (simp; done) | (simp; omega)))))⟩

end Go.Proofs.Ytjojjmmdgldcbaa
