/- The library's sort of at most 12 places. Conditions: those written in each theorem. -/
import Derived.Test.YtfimjfchdaioeaaChSI
import Derived.Test.YtfimjfchdaioeaaChBL
import Derived.Deep.RegionHeld3
import Derived.Deep.DrawnRows
import Derived.IntWalk
import Derived.StillTailTactics
import Derived.Deep.DeepCutAuto
import Derived.Deep.OwnRows
import Derived.Deep.MidRow
import Derived.Laws.Rows
import Derived.Lib.LazyBuf
import Derived.Lib.QuietBelow
import Derived.BigRegion
namespace Go.Proofs.Ytfimjfchdaioeaa
open Go.RowKit
open Go.Sort (grow)


attribute [local go_sem ↓] Go.wp_at_zero Go.wp_at_succ

theorem swp_xy {d : List (Int × Int)} {m : Nat} (h : m + 1 < d.length) (a : Nat) : sx (swp d (m + 1)) a = (if a = m then sx d (m + 1) else if a = m + 1 then sx d m else sx d a) ∧ sy (swp d (m + 1)) a = (if a = m then sy d (m + 1) else if a = m + 1 then sy d m else sy d a) := by
  have e := swp_at d (show 0 < m + 1 by omega) h a
  rw [Nat.add_sub_cancel] at e
  have e1 : ∀ b, sx d b = (eat d b).1 := fun b => rfl
  have e2 : ∀ b, sy d b = (eat d b).2 := fun b => rfl
  have e3 : sx (swp d (m + 1)) a = (eat (swp d (m + 1)) a).1 := rfl
  have e4 : sy (swp d (m + 1)) a = (eat (swp d (m + 1)) a).2 := rfl
  rw [e3, e4, e]
  constructor <;> (split <;> (try split) <;> rfl)
theorem arr_swp {w : World} {P : Nat} {d : List (Int × Int)} {m : Nat} (h : ArrAt w P (plA d)) (hm : m + 1 < d.length) (h12 : d.length ≤ 12) :
    ArrAt ((((w.setCell ⟨P, (m + 1) * 2, none⟩ (.int .i64 (sx d m))).setCell ⟨P, (m + 1) * 2 + 1, none⟩ (.int .i64 (sy d m))).setCell ⟨P, m * 2, none⟩ (.int .i64 (sx d (m + 1)))).setCell ⟨P, m * 2 + 1, none⟩ (.int .i64 (sy d (m + 1)))) P (plA (swp d (m + 1))) ∧
    w.grownBy ((((w.setCell ⟨P, (m + 1) * 2, none⟩ (.int .i64 (sx d m))).setCell ⟨P, (m + 1) * 2 + 1, none⟩ (.int .i64 (sy d m))).setCell ⟨P, m * 2, none⟩ (.int .i64 (sx d (m + 1)))).setCell ⟨P, m * 2 + 1, none⟩ (.int .i64 (sy d (m + 1)))) (some P) := by
  refine ⟨?_, gb_trans (gb_trans (gb_trans (gb_set _ _ _ _) (gb_set _ _ _ _)) (gb_set _ _ _ _)) (gb_set _ _ _ _)⟩
  have hr := h.row (plA_size d) (fun i hi => plA_get d hi)
  refine arr_of_row ((((hr.set ((m + 1) * 2) _).set ((m + 1) * 2 + 1) _).set (m * 2) _).set (m * 2 + 1) _) (plA_size _) (fun i hi => ?_)
  rw [plA_get _ hi, swp_length]
  congr 1
  unfold rowF
  rw [(swp_xy hm (i / 2)).1, (swp_xy hm (i / 2)).2]
  by_cases c1 : i = m * 2 + 1
  · subst c1
    simp [show (m * 2 + 1) / 2 = m by omega, show (m * 2 + 1) % 2 = 1 by omega, show m * 2 + 1 < d.length * 2 by omega]
  · by_cases c2 : i = m * 2
    · subst c2
      simp [show m * 2 / 2 = m by omega, show m * 2 % 2 = 0 by omega, show m * 2 < d.length * 2 by omega]
    · by_cases c3 : i = (m + 1) * 2 + 1
      · subst c3
        simp [show ((m + 1) * 2 + 1) / 2 = m + 1 by omega, show ((m + 1) * 2 + 1) % 2 = 1 by omega, show (m + 1) * 2 + 1 < d.length * 2 by omega, show ¬ (m + 1) * 2 = m * 2 by omega, show ¬ (m + 1) * 2 + 1 = m * 2 by omega]
      · by_cases c4 : i = (m + 1) * 2
        · subst c4
          simp [show (m + 1) * 2 / 2 = m + 1 by omega, show (m + 1) * 2 % 2 = 0 by omega, show (m + 1) * 2 < d.length * 2 by omega, show ¬ (m + 1) * 2 = m * 2 + 1 by omega, show ¬ (m + 1) * 2 = m * 2 by omega, show ¬ (m + 1) * 2 = (m + 1) * 2 + 1 by omega]
        · simp only [c1, c2, c3, c4, if_false]
          rw [if_neg (show ¬ i / 2 = m by omega), if_neg (show ¬ i / 2 = m + 1 by omega), if_neg (show ¬ i / 2 = m by omega), if_neg (show ¬ i / 2 = m + 1 by omega)]
set_option maxRecDepth 100000 in
set_option maxHeartbeats 800000 in
theorem insP_any (l : List (Int × Int)) (h12 : l.length ≤ 12) (P base : Nat) {w : World} (hO : ArrAt w P (plA l)) (hbg : base ≤ P) (h1 : 1 ≤ l.length) :
    Calls Try.prog 113 #[.slice (some ⟨P, 0, none⟩) l.length 12, .int .i64 0, .int .i64 (l.length : Int), .func (Fn.func 72) #[] #[]] w fun e w' => e = .returned (.tuple #[]) ∧ (∃ d : List (Int × Int), d.Perm l ∧ d.Pairwise (fun x y => ¬ ltP y x) ∧ ArrAt w' P (plA d)) ∧ Below base w w' := by
  have hbw : base ≤ w.heap.size := Nat.le_trans hbg (Nat.le_of_lt hO.lt)
  have HO := Lib.hid hO
  clear hO
  go_enter Try.func113, Try.ntmps113
  go_wp2
  go_loopw [8] (fun i wr => ∃ (k : Nat) (d : List (Int × Int)), k + 1 ≤ l.length ∧ i = .int .i64 ((k : Int) + 1) ∧ Hid (ArrAt wr P (plA d)) ∧ Hid (d.Perm l) ∧ Hid (Ord id d k (k + 1)) ∧ Below base w wr) (fun i _ => l.length - (intOf i).toNat)
  case atStart => exact ⟨0, l, h1, by go_num, HO, Lib.hid (List.Perm.refl _), Lib.hid (Ord.start l), Below.refl _ _⟩
  case round =>
    clear HO
    obtain ⟨k, d, hk, rfl, HO, HPM, HORD, hbr⟩ := hrel
    by_cases hlt : k + 1 < l.length
    · have i1 : (k : Int) + 1 < (l.length : Int) := by omega
      have HN := Lib.hid (Ord.next HORD.out)
      clear HORD
      go_wp2
      go_loopw [9] (fun jv wr => ∃ (j : Nat) (d : List (Int × Int)), j ≤ k + 1 ∧ jv = .int .i64 (j : Int) ∧ Hid (ArrAt wr P (plA d)) ∧ Hid (d.Perm l) ∧ Hid (Ord id d (k + 1) j) ∧ Below base w wr) (fun jv _ => (intOf jv).toNat)
      case atStart => exact ⟨k + 1, d, Nat.le_refl _, by go_num, HO, HPM, HN, hbr⟩
      case round =>
        clear HO HPM HN hbr
        obtain ⟨j, d, hj, rfl, HO, HPM, HORD, hbr⟩ := hrel
        obtain ⟨wo, rfl⟩ : ∃ wo, wo = wr := ⟨_, rfl⟩
        have hsr := hbr.size
        have hdl : d.length = l.length := HPM.out.length_eq
        have HDL := Lib.hid hdl
        by_cases hj0 : j = 0
        · subst hj0
          have HS := Lib.hid (Ord.stop HORD.out (Nat.zero_le _) (.inl rfl))
          clear HORD
          rw [show ((0 : Nat) : Int) = 0 from rfl]
          go_upto_region 4 with fail
          go_big_region
          all_goals
            have hq : Below wo.heap.size wo wo.drew := (Below.refl _ _).drew
            have hq2 : Below base w wo.drew := hbr.drew
            have HO2 := Lib.hid (HO.out.below hq)
            clear HO hbr hq
            go_wp2
            go_roundw
            case rel => exact ⟨k + 1, d, by omega, by go_num, HO2, HPM, HS, hq2⟩
            case measure => simp [intOf] <;> omega
        · obtain ⟨m, rfl⟩ : ∃ m, j = m + 1 := ⟨j - 1, by omega⟩
          have hcast : ((m + 1 : Nat) : Int) = (m : Int) + 1 := by omega
          rw [hcast]
          have v1 : IntKind.i64.wrap ((m : Int) + 1 - 1) = (m : Int) := by rw [IntWalk.i64_in _ (by omega)]; omega
          have v3 : IntKind.i64.wrap (m : Int) = (m : Int) := IntWalk.i64_in _ (by omega)
          have j0 : (0 : Int) < (m : Int) + 1 := by omega
          have j1 : (0 : Int) ≤ (m : Int) + 1 := by omega
          have j2 : (m : Int) + 1 < (l.length : Int) := by omega
          have m0 : (0 : Int) ≤ (m : Int) := by omega
          have m1 : (m : Int) < (l.length : Int) := by omega
          clear hcast
          have hm1 : m + 1 < d.length := by omega
          have hd12 : d.length ≤ 12 := by omega
          obtain ⟨e0, e2⟩ := HO.out.pl hd12 hm1
          obtain ⟨e1, e3⟩ := HO.out.pl hd12 (k := m) (by omega)
          have hrow := HO.out.row (plA_size d) (fun i hi => plA_get d hi)
          have f0 := hrow.frozen ((m + 1) * 2)
          have f2 := hrow.frozen ((m + 1) * 2 + 1)
          have f1 := hrow.frozen (m * 2)
          have f3 := hrow.frozen (m * 2 + 1)
          have E1 : eat d (m + 1) = (sx d (m + 1), sy d (m + 1)) := rfl
          have E2 : eat d m = (sx d m, sy d m) := rfl
          have HSW := Lib.hid (fun h => Ord.swap HORD.out (Nat.succ_pos m) hj (by omega) h)
          have HST := Lib.hid (fun h => Ord.stop HORD.out hj (.inr h))
          have HSP := Lib.hid ((swp_perm d m (by omega)).trans HPM.out)
          have hlt9 := cmpP_lt (eat d (m + 1)) (eat d m)
          rw [Nat.add_sub_cancel] at HSW HST
          rw [E1, E2] at hlt9
          have HSF := Lib.hid (fun (W : World) (h : ArrAt W P (plA d)) => arr_swp h hm1 hd12)
          have HC := Lib.hid (fun W => cmpPl_any (sx d (m + 1)) (sy d (m + 1)) (sx d m) (sy d m) W)
          obtain ⟨R, hR⟩ : ∃ z, z = cmpP (sx d (m + 1), sy d (m + 1)) (sx d m, sy d m) := ⟨_, rfl⟩
          obtain ⟨U, hU⟩ : ∃ z : Int, z = sx d (m + 1) := ⟨_, rfl⟩
          obtain ⟨U', hU'⟩ : ∃ z : Int, z = sy d (m + 1) := ⟨_, rfl⟩
          obtain ⟨V, hV⟩ : ∃ z : Int, z = sx d m := ⟨_, rfl⟩
          obtain ⟨V', hV'⟩ : ∃ z : Int, z = sy d m := ⟨_, rfl⟩
          rw [← hR] at HC hlt9
          rw [← hU] at e0 HC HSF
          rw [← hU'] at e2 HC HSF
          rw [← hV] at e1 HC HSF
          rw [← hV'] at e3 HC HSF
          have HLT := Lib.hid hlt9
          have HST2 := Lib.hid (fun h => HST.out (by rw [E1, E2]; exact h))
          have HSW2 := Lib.hid (fun h => HSW.out (by rw [E1, E2]; exact h))
          clear hU hU' hV hV' hlt9 HORD hrow E1 E2 HST HSW
          have HRR := Lib.hid hR
          clear hR
          have rge0 := fun dd os => cell_regrown e0 dd os
          have rge1 := fun dd os => cell_regrown e1 dd os
          have rge2 := fun dd os => cell_regrown e2 dd os
          have rge3 := fun dd os => cell_regrown e3 dd os
          go_upto_region 4 with fail
          by_cases hR : R < 0
          all_goals
            refine wp_region_quiet_below (by kernel_rfl) (by kernel_rfl) ?_
            repeat (quiet_step (first | (with_reducible exact Calls.regrown_of (HC.out _))))
            refine wpQuiet_nil ?_
            intro _ hw'
            obtain ⟨⟨dq, osq⟩, hw''⟩ := hw'
            subst hw''
            have hq := below_regrown wo dq osq
            generalize grow (redrawn wo dq) osq = W2 at hq ⊢
            have hB2 : Below base w W2 := hbr.trans (hq.mono (Nat.le_trans hbw hsr))
            have hA2 := HO.out.below hq
            replace e0 := (hq.cell (World.block_lt_of_cell? _ _ e0)).trans e0
            replace e1 := (hq.cell (World.block_lt_of_cell? _ _ e1)).trans e1
            replace e2 := (hq.cell (World.block_lt_of_cell? _ _ e2)).trans e2
            replace e3 := (hq.cell (World.block_lt_of_cell? _ _ e3)).trans e3
            replace f0 := (hq.frozen (p := ⟨P, (m + 1) * 2, none⟩) HO.out.lt).trans f0
            replace f1 := (hq.frozen (p := ⟨P, m * 2, none⟩) HO.out.lt).trans f1
            replace f2 := (hq.frozen (p := ⟨P, (m + 1) * 2 + 1, none⟩) HO.out.lt).trans f2
            replace f3 := (hq.frozen (p := ⟨P, m * 2 + 1, none⟩) HO.out.lt).trans f3
            clear HO hbr rge0 rge1 rge2 rge3 hq
          · obtain ⟨hs1, hs2⟩ := HSF.out W2 hA2
            have HS1 := Lib.hid hs1
            have HS2 := Lib.hid hs2
            have HSQ := Lib.hid (HSW2.out (HLT.out.1 hR))
            have n1 : ¬ m + 1 = m := by omega
            have n2 : ¬ m = m + 1 := by omega
            have n3 : ¬ (m + 1) * 2 = m * 2 := by omega
            have n4 : ¬ m * 2 = (m + 1) * 2 := by omega
            have n5 : ¬ (m + 1) * 2 + 1 = m * 2 := by omega
            have n6 : ¬ m * 2 = (m + 1) * 2 + 1 := by omega
            have n7 : ¬ (m + 1) * 2 = m * 2 + 1 := by omega
            have n8 : ¬ m * 2 + 1 = (m + 1) * 2 := by omega
            clear hs1 hs2 HLT HST2 HSW2 HSF hA2 HRR HDL
            go_upto_region 6 with fail
            go_big_region
            have hz2 : base ≤ W2.heap.size := Nat.le_trans hbw hB2.size
            have hB3 := (hB2.grown HS2.out hz2 (fun x e => by cases e; exact hbg)).drew
            have HO3 := Lib.hid (HS1.out.below ((Below.refl _ _).drew))
            have hlen := (swp_length d (m + 1))
            clear HS1 HS2 hB2 hz2 e0 e1 e2 e3 f0 f1 f2 f3 hlen
            go_wp2
            go_roundw
            case rel => exact ⟨m, swp d (m + 1), by omega, by go_num, HO3, HSP, HSQ, hB3⟩
            case measure => simp [intOf] <;> omega
          · have HSQ := Lib.hid (HST2.out (fun h => hR (HLT.out.2 h)))
            have HO2 := Lib.hid hA2
            clear HLT HST2 HSW2 HSF hA2 e0 e1 e2 e3 f0 f1 f2 f3
            go_wp2
            go_roundw
            case rel => exact ⟨k + 1, d, by omega, by go_num, HO2, HPM, HSQ, hB2⟩
            case measure => simp [intOf] <;> omega
    · have hke : l.length = k + 1 := by omega
      have i9 : ¬ (k : Int) + 1 < (l.length : Int) := by omega
      have HF := Lib.hid (show ∃ d : List (Int × Int), d.Perm l ∧ d.Pairwise (fun x y => ¬ ltP y x) ∧ ArrAt wr P (plA d) from ⟨d, HPM.out, HORD.out.sorted (by have := HPM.out.length_eq; omega), HO.out⟩)
      clear hke HO HPM HORD
      go_wp2
      go_end0
      exact ⟨rfl, HF.out, hbr⟩

set_option maxRecDepth 100000 in
set_option maxHeartbeats 1000000 in
theorem sortP_pdq (l : List (Int × Int)) (h12 : l.length ≤ 12) (P base : Nat) {w : World} (hO : ArrAt w P (plA l)) (hbg : base ≤ P) (h1 : 1 ≤ l.length) (lim : Int) :
    Calls Try.prog 94 #[.slice (some ⟨P, 0, none⟩) l.length 12, .int .i64 0, .int .i64 (l.length : Int), .int .i64 lim, .func (Fn.func 72) #[] #[]] w fun e w' => e = .returned (.tuple #[]) ∧ (∃ d : List (Int × Int), d.Perm l ∧ d.Pairwise (fun x y => ¬ ltP y x) ∧ ArrAt w' P (plA d)) ∧ Below base w w' := by
  have HI := Lib.hid (insP_any l h12 P base hO hbg h1)
  have i1 : (l.length : Int) ≤ 12 := by omega
  have v1 : IntKind.i64.wrap (l.length : Int) = (l.length : Int) := IntWalk.i64_in _ (by omega)
  have v2 : IntKind.i64.wrap ((l.length : Int) - 0) = (l.length : Int) := by rw [Int.sub_zero]; exact v1
  go_enter Try.func94, Try.ntmps94
  go_wp2
  refine wp_loop_rounds 1 ?_
  rw [rounds_succ]
  go_wp2_with (go_at_call 113; ((with_reducible refine HI.out.mono ?_); rintro e w' ⟨rfl, hpost⟩))
  (try simp only [Exit.inBlock, Exit.then])
  refine bodyPost_ret (results_none rfl _ _ _) rfl ?_
  exact ⟨rfl, hpost⟩
set_option maxRecDepth 100000 in
set_option maxHeartbeats 1000000 in
theorem sortP_sort (l : List (Int × Int)) (h12 : l.length ≤ 12) (P base : Nat) {w : World} (hO : ArrAt w P (plA l)) (hbg : base ≤ P) (h1 : 1 ≤ l.length) :
    Calls Try.prog 82 #[.slice (some ⟨P, 0, none⟩) l.length 12, .func (Fn.func 72) #[] #[]] w fun e w' => e = .returned (.tuple #[]) ∧ (∃ d : List (Int × Int), d.Perm l ∧ d.Pairwise (fun x y => ¬ ltP y x) ∧ ArrAt w' P (plA d)) ∧ Below base w w' := by
  have HP := Lib.hid (fun lim => sortP_pdq l h12 P base hO hbg h1 lim)
  have HB := Lib.hid (fun W => bitsLen_any l.length h12 W)
  have v1 : IntKind.u64.wrap (l.length : Int) = (l.length : Int) := by rw [IntKind.wrap_u64]; omega
  go_enter Try.func82, Try.ntmps82
  go_wp2_with (first | (go_at_call 84; ((with_reducible refine (HB.out _).mono ?_); rintro e w' ⟨⟨m, rfl⟩, rfl⟩)) | (go_at_call 94; ((with_reducible refine (HP.out _).mono ?_); rintro e w' ⟨rfl, hpost⟩)))
  go_end0
  exact ⟨rfl, hpost⟩

end Go.Proofs.Ytfimjfchdaioeaa
