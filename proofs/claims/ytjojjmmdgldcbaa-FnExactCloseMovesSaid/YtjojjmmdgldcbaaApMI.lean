/- CloseMoves: the program's side. Conditions: those written in each theorem. -/
import Derived.Test.YtjojjmmdgldcbaaApMS
import Derived.Test.YtjojjmmdgldcbaaApCI
import Derived.Deep.RegionHeld3
import Derived.Deep.DrawnRows
import Derived.IntWalk
import Derived.StillTailTactics
import Derived.Deep.DeepCutAuto
import Derived.Deep.LoopGhost
import Derived.Lib.QuietBelow
namespace Go.Proofs.Ytjojjmmdgldcbaa
open Go.RowKit Go.Sort


attribute [local go_sem ↓] Go.wp_at_zero Go.wp_at_succ

theorem OwnZ.kept2 {w w' : World} {base : Nat} {v : Value} {Z : List (Value × List Int)} {r : Option Nat} (h : OwnZ w base v Z) (hg : w.grownBy w' r) (h1 : v.ownBlock = none ∨ v.ownBlock ≠ r) (h2 : ∀ z ∈ Z, z.1.ownBlock = none ∨ z.1.ownBlock ≠ r) : OwnZ w' base v Z :=
  ⟨World.ownsRow.kept h.1 hg h1, h.2.kept hg h2⟩
theorem pall_pos {n : Nat} (hn : 2 ≤ n) : ∀ i, 0 < (pall n (i + 1)).length := by
  intro i
  induction i with
  | zero =>
    obtain ⟨m, rfl⟩ : ∃ m, n = m + 1 := ⟨n - 1, by omega⟩
    show 0 < ([] ++ prow 0 (m + 1)).length
    rw [prow_step (by omega)]
    simp
  | succ i ih =>
    show 0 < (pall n (i + 1) ++ prow (i + 1) n).length
    rw [List.length_append]
    omega
theorem pairsOf_two (n : Nat) (h2 : 2 ≤ n) (hn : n ≤ 12) (w : World) :
    Calls Try.prog 79 #[.int .i64 (n : Int)] w fun e w' => ∃ g cap Z, e = .returned (.slice (some ⟨g, 0, none⟩) Z.length cap) ∧ (w.heap.size ≤ g ∧ g < w'.heap.size) ∧ OwnZ w' w.heap.size (.slice (some ⟨g, 0, none⟩) Z.length cap) Z ∧ rowsL Z = prL (allP2 n) ∧ Below w.heap.size w w' := by
  refine (pairsOf_any n hn w).mono fun e w' ⟨v, he, ⟨Z, hZ, hr⟩, hb⟩ => ?_
  rcases hZ.form with ⟨_, rfl⟩ | ⟨g, cap, rfl, h1, h2⟩
  · exfalso
    have h := rows_len hr
    obtain ⟨m, rfl⟩ : ∃ m, n = m + 1 := ⟨n - 1, by omega⟩
    have := pall_pos h2 m
    have e : (allP2 (m + 1)).length = 0 := h.symm
    unfold allP2 at e
    omega
  · exact ⟨g, cap, Z, he, ⟨h1, h2⟩, hZ, hr, hb⟩

set_option maxRecDepth 100000 in
set_option maxHeartbeats 2000000 in
theorem clsM_no (a : Option Addr) (cap : Nat) (l : List (Int × Int × Int × Int × Int)) (hl : l.length ≤ 1048576) (L : Int) {w : World} (hv : mvsOk l = false) (ha : MovesAt w a l) :
    Calls Try.prog 39 #[.slice a l.length cap, .int .i64 L] w fun e w' => e = .returned (.tuple #[.slice none 0 0, .bool false]) ∧ Below w.heap.size w w' := by
  have HG := Lib.hid (fun (W : World) (hb : Below w.heap.size w W) => allGo_any a cap l hl (ha.below hb))
  rw [hv] at HG
  clear hv ha
  go_enter Try.func39, Try.ntmps39
  go_wp2_with (go_at_call 78; ((with_reducible refine (HG.out _ (by repeat (first | exact Below.refl _ _ | assumption | refine Below.drew ?_ | refine below_drewN ?_ _ | refine Below.alloc ?_ (by first | omega | (simp; done) | (simp; omega)) _ | refine Below.setCell ?_ (by first | omega | (simp; done) | (simp; omega)) _ | refine Below.trans ?_ (Below.mono (by assumption) (by first | omega | (simp; done) | (simp; omega)))))).mono ?_); rintro e w1 ⟨rfl, hb1⟩; have hs1 := hb1.size; (try simp at hs1)))
  go_ret2
  exact ⟨rfl, (by repeat (first | exact Below.refl _ _ | assumption | refine Below.drew ?_ | refine below_drewN ?_ _ | refine Below.alloc ?_ (by first | omega | (simp; done) | (simp; omega)) _ | refine Below.setCell ?_ (by first | omega | (simp; done) | (simp; omega)) _ | refine Below.trans ?_ (Below.mono (by assumption) (by first | omega | (simp; done) | (simp; omega)))))⟩

set_option maxRecDepth 100000 in
set_option maxHeartbeats 2000000 in
theorem clsM_far (a : Option Addr) (cap : Nat) (l : List (Int × Int × Int × Int × Int)) (hl : l.length ≤ 1048576) (L : Int) {w : World} (hv : mvsOk l = true) (h2 : inB 0 L 80 = false) (ha : MovesAt w a l) :
    Calls Try.prog 39 #[.slice a l.length cap, .int .i64 L] w fun e w' => e = .returned (.tuple #[.slice none 0 0, .bool false]) ∧ Below w.heap.size w w' := by
  have HG := Lib.hid (fun (W : World) (hb : Below w.heap.size w W) => allGo_any a cap l hl (ha.below hb))
  rw [hv] at HG
  have HD := Lib.hid (fun W => isLeast_any L W)
  rw [h2] at HD
  clear hv h2 ha
  go_enter Try.func39, Try.ntmps39
  go_wp2_with (first | (go_at_call 78; ((with_reducible refine (HG.out _ (by repeat (first | exact Below.refl _ _ | assumption | refine Below.drew ?_ | refine below_drewN ?_ _ | refine Below.alloc ?_ (by first | omega | (simp; done) | (simp; omega)) _ | refine Below.setCell ?_ (by first | omega | (simp; done) | (simp; omega)) _ | refine Below.trans ?_ (Below.mono (by assumption) (by first | omega | (simp; done) | (simp; omega)))))).mono ?_); rintro e w1 ⟨rfl, hb1⟩; have hs1 := hb1.size; (try simp at hs1))) | (go_at_call 69; ((with_reducible refine (HD.out _).mono ?_); rintro e w' ⟨rfl, rfl⟩)))
  go_ret2
  exact ⟨rfl, (by repeat (first | exact Below.refl _ _ | assumption | refine Below.drew ?_ | refine below_drewN ?_ _ | refine Below.alloc ?_ (by first | omega | (simp; done) | (simp; omega)) _ | refine Below.setCell ?_ (by first | omega | (simp; done) | (simp; omega)) _ | refine Below.trans ?_ (Below.mono (by assumption) (by first | omega | (simp; done) | (simp; omega)))))⟩

set_option maxRecDepth 100000 in
set_option maxHeartbeats 8000000 in
theorem clsM_yes (a : Option Addr) (cap : Nat) (l : List (Int × Int × Int × Int × Int)) (hl : l.length ≤ 1048576) (L : Int) {w : World} (hv : mvsOk l = true) (L0 : 0 ≤ L) (L1 : L ≤ 80) (ha : MovesAt w a l) :
    Calls Try.prog 39 #[.slice a l.length cap, .int .i64 L] w fun e w' => ∃ v, e = .returned (.tuple #[v, .bool true]) ∧ (∃ Z, OwnZ w' w.heap.size v Z ∧ rowsL Z = prL ((allP2 l.length).filter (cl2 l L))) ∧ Below w.heap.size w w' := by
  obtain ⟨n2, n12, hall⟩ := mvsOk_iff hv
  have HG := Lib.hid (fun (W : World) (hb : Below w.heap.size w W) => allGo_any a cap l hl (ha.below hb))
  rw [hv] at HG
  have HD := Lib.hid (fun W => isLeast_any L W)
  rw [inB_iff.2 ⟨L0, L1⟩] at HD
  have HA := Lib.hid ha
  have HALL := Lib.hid hall
  obtain ⟨b, off, rfl, hb0, _⟩ := ha.one (by omega)
  clear ha hall hv hb0
  have HL0 := Lib.hid L0
  have HL1 := Lib.hid L1
  clear L0 L1
  obtain ⟨q1, q2, q3, q4, q5, q6, q7⟩ := nadd
  obtain ⟨q0, hi, hz0, hz1, hz2⟩ := info_parts Try.infoInts
  have HI := Lib.hid hi
  have HZ0 := Lib.hid hz0
  have HZ1 := Lib.hid hz1
  have HZ2 := Lib.hid hz2
  clear hi hz0 hz1 hz2
  have HPR := Lib.hid (fun W => pairsOf_two l.length n2 n12 W)
  have HPM := Lib.hid (fun p (hp : p ∈ allP2 l.length) => pall_mem hp)
  have hpl := pall_len l.length l.length
  have hpl2 : l.length * l.length ≤ 12 * 12 := Nat.mul_le_mul n12 n12
  have hpl3 : (allP2 l.length).length ≤ 144 := Nat.le_trans hpl hpl2
  obtain ⟨PS, hPS⟩ : ∃ x, x = allP2 l.length := ⟨_, rfl⟩
  rw [← hPS] at HPR HPM hpl3
  rw [← hPS]
  clear hpl hpl2 hPS
  go_enter Try.func39, Try.ntmps39
  go_wp2_with (first | (go_at_call 78; ((with_reducible refine (HG.out _ (by repeat (first | exact Below.refl _ _ | assumption | refine Below.drew ?_ | refine below_drewN ?_ _ | refine Below.alloc ?_ (by first | omega | (simp; done) | (simp; omega)) _ | refine Below.setCell ?_ (by first | omega | (simp; done) | (simp; omega)) _ | refine Below.trans ?_ (Below.mono (by assumption) (by first | omega | (simp; done) | (simp; omega)))))).mono ?_); rintro e w1 ⟨rfl, hb1⟩; have hs1 := hb1.size; (try simp at hs1))) | (go_at_call 69; ((with_reducible refine (HD.out _).mono ?_); rintro e w' ⟨rfl, rfl⟩)) | (go_at_call 79; (refine (HPR.out _).mono ?_; rintro e w3 ⟨gz, capz, Zp, rfl, ⟨hgz0, hgz1⟩, hZp, hrows, hb3⟩; have hs3 := hb3.size)))
  have hB3 : Below w.heap.size w w3 := (by repeat (first | exact Below.refl _ _ | assumption | refine Below.drew ?_ | refine below_drewN ?_ _ | refine Below.alloc ?_ (by first | omega | (simp; done) | (simp; omega)) _ | refine Below.setCell ?_ (by first | omega | (simp; done) | (simp; omega)) _ | refine Below.trans ?_ (Below.mono (by assumption) (by first | omega | (simp; done) | (simp; omega)))))
  have HZL := Lib.hid (rows_len hrows)
  have hpl4 : Zp.length ≤ 144 := by have := HZL.out; omega
  have HROWS := Lib.hid hrows
  have HP0 := Lib.hid hZp
  obtain ⟨B0, hB0⟩ : ∃ x, x = w1.heap.size := ⟨_, rfl⟩
  rw [← hB0] at HP0 hgz0
  have hB0w : w.heap.size ≤ B0 := by rw [hB0]; exact hb1.size
  clear hZp hrows hb3 hb1 hs1 hs3 HG HD HPR hB0
  go_loopw [6, 21] (fun v i wr => ∃ (k : Nat), k ≤ Zp.length ∧ i = .int .i64 (k : Int) ∧ Hid (∃ Zf : List (Value × List Int), Zf.Sublist (Zp.take k) ∧ rowsL Zf = prL ((PS.take k).filter (cl2 l L)) ∧ wr.ownsRow w3.heap.size 37 1 v Zf.length (Zf.map Prod.fst)) ∧ Hid (OwnZ wr B0 (.slice (some ⟨gz, 0, none⟩) Zp.length capz) Zp) ∧ Below w.heap.size w wr ∧ w3.heap.size ≤ wr.heap.size) (fun _ i _ => Zp.length - (intOf i).toNat)
  case atStart => exact ⟨0, Nat.zero_le _, rfl, Lib.hid ⟨[], List.nil_sublist _, by rw [List.take_zero]; rfl, World.ownsRow_nil _ _ _ _⟩, HP0, hB3, Nat.le_refl _⟩
  case round =>
    clear HP0 hB3
    obtain ⟨k, hk, rfl, HF, HP, hbr, hsz⟩ := hrel
    obtain ⟨wo, rfl⟩ : ∃ wo, wo = wr := ⟨_, rfl⟩
    have hsr := hbr.size
    by_cases hlt : k < Zp.length
    · have hltP : k < PS.length := by have := HZL.out; omega
      obtain ⟨ai, ci, cz, hze, hI, _⟩ := HP.out.row hlt
      have hz2 : Zp[k].2 = [(PS[k].1 : Int), (PS[k].2 : Int)] := by rw [← pair_get hltP, ← HROWS.out, rowsL_get hlt]
      rw [hz2] at cz hze hI
      obtain ⟨hi, hij, hj⟩ := HPM.out _ (List.getElem_mem hltP)
      have htk := take_snoc hltP
      obtain ⟨p, hp⟩ : ∃ p, p = PS[k] := ⟨_, rfl⟩
      rw [← hp] at cz hze hI hi hij hj htk hz2
      clear hp
      obtain ⟨i, j⟩ := p
      dsimp only at cz hze hI hi hij hj hz2
      have hi' : i < l.length := by omega
      obtain ⟨br, or', rfl, x0, x1⟩ := two_at hI
      have hze2 : Zp[k] = (.slice (some ⟨br, or', none⟩) 2 ci, [(i : Int), (j : Int)]) := Prod.ext hze hz2
      have HZE := Lib.hid hze2
      have HTK := Lib.hid htk
      have HTZ := Lib.hid (show Zp.take (k + 1) = Zp.take k ++ [Zp[k]] from List.take_succ_eq_append_getElem hlt)
      clear htk hI hze hz2 hze2
      have i0 : (0 : Int) ≤ (k : Int) := by omega
      have i1 : (k : Int) < (Zp.length : Int) := by omega
      have m0 : (0 : Int) ≤ (i : Int) := by omega
      have m1 : (i : Int) < (l.length : Int) := by omega
      have m2 : (0 : Int) ≤ (j : Int) := by omega
      have m3 : (j : Int) < (l.length : Int) := by omega
      obtain ⟨b', off', hbb, hb0', c0, c1, c2, c3, c4, d0, d1, d2, d3, d4⟩ := (HA.out.below hbr).two hi' hj
      simp only [Option.some.injEq, Addr.mk.injEq] at hbb
      obtain ⟨hx1, hx2, _⟩ := hbb
      subst hx1 hx2
      have HL := Lib.hid (fun W => stay_at (HALL.out i j hi' hj) HL0.out HL1.out W)
      go_upto_region 7 with fail
      cases hc : cl2 l L (i, j)
      all_goals rw [hc] at HL
      · have rgx0 := fun d os => cell_regrown x0 d os
        have rgx1 := fun d os => cell_regrown x1 d os
        have rgc0 := fun d os => cell_regrown c0 d os
        have rgc1 := fun d os => cell_regrown c1 d os
        have rgc2 := fun d os => cell_regrown c2 d os
        have rgc3 := fun d os => cell_regrown c3 d os
        have rgc4 := fun d os => cell_regrown c4 d os
        have rgd0 := fun d os => cell_regrown d0 d os
        have rgd1 := fun d os => cell_regrown d1 d os
        have rgd2 := fun d os => cell_regrown d2 d os
        have rgd3 := fun d os => cell_regrown d3 d os
        have rgd4 := fun d os => cell_regrown d4 d os
        refine wp_region_quiet_below (by kernel_rfl) (by kernel_rfl) ?_
        repeat (quiet_step (first | (with_reducible exact Calls.regrown_of (HL.out _))))
        refine wpQuiet_nil ?_
        intro _ hw'
        obtain ⟨⟨dq, osq⟩, hw''⟩ := hw'
        subst hw''
        have hq := below_regrown wo dq osq
        generalize grow (redrawn wo dq) osq = wi at hq ⊢
        clear rgx0 rgx1 rgc0 rgc1 rgc2 rgc3 rgc4 rgd0 rgd1 rgd2 rgd3 rgd4 x0 x1 c0 c1 c2 c3 c4 d0 d1 d2 d3 d4 cz HL
        have hz2 := hq.size
        have hB2 : Below w.heap.size w wi := hbr.trans (hq.mono (by first | omega | (simp; done) | (simp; omega)))
        have HF2 : Hid (∃ Zf : List (Value × List Int), Zf.Sublist (Zp.take (k + 1)) ∧ rowsL Zf = prL ((PS.take (k + 1)).filter (cl2 l L)) ∧ wi.ownsRow w3.heap.size 37 1 u6 Zf.length (Zf.map Prod.fst)) := Lib.hid (by
          obtain ⟨Zf, h1, h2, h3⟩ := HF.out
          refine ⟨Zf, h1.trans (by rw [HTZ.out]; exact List.sublist_append_left _ _), ?_, own_below h3 hq⟩
          rw [HTK.out, filter_no hc]
          exact h2)
        have HP2 := Lib.hid (HP.out.below hq)
        clear hq hc HF HP
        go_wp2
        go_roundw
        case rel => exact ⟨k + 1, by omega, by go_num, HF2, HP2, hB2, by omega⟩
        case measure => simp [intOf]; omega
      · have rgx0 := fun d os => cell_regrown x0 d os
        have rgx1 := fun d os => cell_regrown x1 d os
        have rgc0 := fun d os => cell_regrown c0 d os
        have rgc1 := fun d os => cell_regrown c1 d os
        have rgc2 := fun d os => cell_regrown c2 d os
        have rgc3 := fun d os => cell_regrown c3 d os
        have rgc4 := fun d os => cell_regrown c4 d os
        have rgd0 := fun d os => cell_regrown d0 d os
        have rgd1 := fun d os => cell_regrown d1 d os
        have rgd2 := fun d os => cell_regrown d2 d os
        have rgd3 := fun d os => cell_regrown d3 d os
        have rgd4 := fun d os => cell_regrown d4 d os
        refine wp_region_quiet_below (by kernel_rfl) (by kernel_rfl) ?_
        repeat (quiet_step (first | (with_reducible exact Calls.regrown_of (HL.out _))))
        refine wpQuiet_nil ?_
        intro _ hw'
        obtain ⟨⟨dq, osq⟩, hw''⟩ := hw'
        subst hw''
        have hq := below_regrown wo dq osq
        generalize grow (redrawn wo dq) osq = wi at hq ⊢
        clear rgx0 rgx1 rgc0 rgc1 rgc2 rgc3 rgc4 rgd0 rgd1 rgd2 rgd3 rgd4 x0 x1 c0 c1 c2 c3 c4 d0 d1 d2 d3 d4 cz HL
        have hz2 := hq.size
        have hB2 : Below w.heap.size w wi := hbr.trans (hq.mono (by first | omega | (simp; done) | (simp; omega)))
        obtain ⟨Zf, hf1, hf2, hf3⟩ := HF.out
        have hfl := hf1.length_le
        rw [List.length_take] at hfl
        have hzb : Zf.length ≤ 200 := by omega
        have HOF := Lib.hid (own_below hf3 hq)
        have HP2 := Lib.hid (HP.out.below hq)
        have HF1 := Lib.hid hf1
        have HF2' := Lib.hid (show rowsL Zf ++ [[(i : Int), (j : Int)]] = prL ((PS.take (k + 1)).filter (cl2 l L)) by rw [hf2, HTK.out, filter_yes hc, prL_snoc])
        have hsw := hB2.size
        clear hq hc HF HP hf1 hf2 hf3 hfl hbr
        go_wp2_with (at_builtin; refine wpList_append_own _ rfl _ _ 54 rfl (w3.heap.size) 37 q0 (.slice none 0 0) 1 24 Try.underlying54 HI.out HZ0.out HZ1.out HZ2.out rfl (by decide) _ _ _ rfl (HOF.out.alloc _) ⟨wi.heap.size, 0, none⟩ 1 1 [.slice (some ⟨br, or', none⟩) 2 ci] rfl rfl ?c1 ?c2 ?c3 ?c4 ?c5 ?_)
        case c1 =>
          intro t u ht
          match t, ht with
          | 0, ht => simp at ht; subst ht; simp [Addr.add]
        case c2 => intro u hu; simp at hu; subst hu; rfl
        case c3 => unfold maxLen; omega
        case c4 => omega
        case c5 => simp; omega
        intro v' w2 hown' hgrow _
        have hb2 : Below w.heap.size w w2 := (hB2.alloc hsw _).grown hgrow (by simp; omega) (fun x hx => by have := (World.ownsRow.lt HOF.out x hx).1; omega)
        have hszw := hgrow.size
        simp at hszw
        have HPN := Lib.hid ((HP2.out.below ((Below.refl _ wi).alloc (Nat.le_refl _) _)).kept2 hgrow (.inr (fun e => by have := (World.ownsRow.lt HOF.out gz e.symm).1; omega)) (fun z hz => rows_ne (HP2.out.2.1 z hz) HOF.out))
        have HFN : Hid (∃ Zf : List (Value × List Int), Zf.Sublist (Zp.take (k + 1)) ∧ rowsL Zf = prL ((PS.take (k + 1)).filter (cl2 l L)) ∧ w2.ownsRow w3.heap.size 37 1 v' Zf.length (Zf.map Prod.fst)) := Lib.hid (by
          refine ⟨Zf ++ [Zp[k]], by rw [HTZ.out]; exact HF1.out.append (List.Sublist.refl _), ?_, ?_⟩
          · rw [HZE.out, rowsL_snoc]; exact HF2'.out
          · rw [HZE.out]; simpa using hown')
        clear hown' hgrow HP2 HOF HF1 HF2' HTZ HTK HZE
        go_wp2
        go_roundw
        case rel => exact ⟨k + 1, by omega, by go_num, HFN, HPN, hb2, by omega⟩
        case measure => simp [intOf]; omega
    · obtain rfl : k = Zp.length := by omega
      obtain ⟨Zf, hf1, hf2, hf3⟩ := HF.out
      rw [HZL.out, List.take_length] at hf2
      rw [List.take_length] at hf1
      have HR := Lib.hid (show ∃ Z, OwnZ wo w.heap.size u6 Z ∧ rowsL Z = prL (PS.filter (cl2 l L)) from ⟨Zf, ⟨own_mono hf3 (by omega), (HP.out.2.sub hf1).mono hB0w⟩, hf2⟩)
      clear hf1 hf2 hf3 HF
      go_wp2
      go_ret2
      exact ⟨_, rfl, HR.out, (by repeat (first | exact Below.refl _ _ | assumption | refine Below.drew ?_ | refine below_drewN ?_ _ | refine Below.alloc ?_ (by first | omega | (simp; done) | (simp; omega)) _ | refine Below.setCell ?_ (by first | omega | (simp; done) | (simp; omega)) _ | refine Below.trans ?_ (Below.mono (by assumption) (by first | omega | (simp; done) | (simp; omega)))))⟩

theorem clsM_any (a : Option Addr) (cap : Nat) (l : List (Int × Int × Int × Int × Int)) (hl : l.length ≤ 1048576) (L : Int) {w : World} (ha : MovesAt w a l) :
    Calls Try.prog 39 #[.slice a l.length cap, .int .i64 L] w (CmPost l L w) := by
  have hno : cmOk l L = false → closeMs l L = [] := fun e => by unfold closeMs; rw [e]; rfl
  cases hv : mvsOk l
  · have e1 : cmOk l L = false := by unfold cmOk; rw [hv]; rfl
    exact (clsM_no a cap l hl L hv ha).mono fun e w' ⟨he, hb⟩ => ⟨.slice none 0 0, by rw [e1]; exact he, ⟨[], OwnZ.nil _ _, by rw [hno e1]; rfl⟩, hb⟩
  · cases h2 : inB 0 L 80
    · have e1 : cmOk l L = false := by unfold cmOk; rw [hv, h2]; rfl
      exact (clsM_far a cap l hl L hv h2 ha).mono fun e w' ⟨he, hb⟩ => ⟨.slice none 0 0, by rw [e1]; exact he, ⟨[], OwnZ.nil _ _, by rw [hno e1]; rfl⟩, hb⟩
    · have e1 : cmOk l L = true := by unfold cmOk; rw [hv, h2]; rfl
      have e2 : closeMs l L = (allP2 l.length).filter (cl2 l L) := by unfold closeMs; rw [e1, if_pos rfl]
      obtain ⟨L0, L1⟩ := inB_iff.1 h2
      exact (clsM_yes a cap l hl L hv L0 L1 ha).mono fun e w' ⟨v, he, hz, hb⟩ => ⟨v, by rw [e1]; exact he, by rw [e2]; exact hz, hb⟩

end Go.Proofs.Ytjojjmmdgldcbaa
