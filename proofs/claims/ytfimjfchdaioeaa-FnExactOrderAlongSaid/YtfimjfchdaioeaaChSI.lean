/- The library's sort of at most 12 numbers by the places of a chart. Conditions: those written in each theorem. -/
import Derived.Test.YtfimjfchdaioeaaChCmp
import Derived.Test.YtfimjfchdaioeaaInts
import Derived.Deep.RegionHeld3
import Derived.Deep.DrawnRows
import Derived.IntWalk
import Derived.StillTailTactics
import Derived.Deep.DeepCutAuto
import Derived.Deep.OwnRows
import Derived.Deep.MidRow
import Derived.Laws.Rows
import Derived.Lib.LazyBuf
import Derived.Lib.QuietBelow
import Derived.BigRegion
namespace Go.Proofs.Ytfimjfchdaioeaa
open Go.RowKit
open Go.Sort (grow)


attribute [local go_sem ↓] Go.wp_at_zero Go.wp_at_succ

theorem ArrAt.pl {w : World} {P : Nat} {l : List (Int × Int)} (h : ArrAt w P (plA l)) (h12 : l.length ≤ 12) {k : Nat} (hk : k < l.length) : w.cell? ⟨P, k * 2, none⟩ = some (.int .i64 (sx l k)) ∧ w.cell? ⟨P, k * 2 + 1, none⟩ = some (.int .i64 (sy l k)) :=
  ⟨h.cell (plA_at hk h12).1, h.cell (plA_at hk h12).2⟩
set_option maxRecDepth 100000 in
set_option maxHeartbeats 2000000 in
theorem ordC_any (l : List (Int × Int)) (h12 : l.length ≤ 12) (P : Nat) (i k : Nat) (hi : i < l.length) (hk : k < l.length) {w : World} (hA : ArrAt w P (plA l)) :
    Calls Try.prog 71 #[.int .i64 (i : Int), .int .i64 (k : Int), .pointer (some ⟨P, 0, none⟩)] w fun e w' => e = .returned (.int .i64 (cmpP (pt l i) (pt l k))) ∧ Below w.heap.size w w' := by
  obtain ⟨c0, c1⟩ := hA.pl h12 hi
  obtain ⟨d0, d1⟩ := hA.pl h12 hk
  have i0 : (0 : Int) ≤ (i : Int) := by omega
  have i1 : (i : Int) < 12 := by omega
  have i2 : i < 12 := by omega
  have m0 : (0 : Int) ≤ (k : Int) := by omega
  have m1 : (k : Int) < 12 := by omega
  have m2 : k < 12 := by omega
  have HC := Lib.hid (fun W => cmpPl_any (sx l i) (sy l i) (sx l k) (sy l k) W)
  have HE : Hid (cmpP (pt l i) (pt l k) = cmpP (sx l i, sy l i) (sx l k, sy l k)) := Lib.hid rfl
  obtain ⟨R, hR⟩ : ∃ z, z = cmpP (sx l i, sy l i) (sx l k, sy l k) := ⟨_, rfl⟩
  obtain ⟨X1, hX1⟩ : ∃ z, z = sx l i := ⟨_, rfl⟩
  obtain ⟨Y1, hY1⟩ : ∃ z, z = sy l i := ⟨_, rfl⟩
  obtain ⟨X2, hX2⟩ : ∃ z, z = sx l k := ⟨_, rfl⟩
  obtain ⟨Y2, hY2⟩ : ∃ z, z = sy l k := ⟨_, rfl⟩
  rw [← hR] at HC HE
  rw [← hX1, ← hY1, ← hX2, ← hY2] at HC
  rw [← hX1] at c0
  rw [← hY1] at c1
  rw [← hX2] at d0
  rw [← hY2] at d1
  clear hA hR hX1 hY1 hX2 hY2 hi hk
  go_enter Try.func71, Try.ntmps71
  go_upto_region 1 with fail
  have rgc0 := fun d os => cell_regrown c0 d os
  have rgc1 := fun d os => cell_regrown c1 d os
  have rgd0 := fun d os => cell_regrown d0 d os
  have rgd1 := fun d os => cell_regrown d1 d os
  refine wp_region_quiet_below (by kernel_rfl) (by kernel_rfl) ?_
  repeat (quiet_step (first | (with_reducible exact Calls.regrown_of (HC.out _))))
  refine wpQuiet_nil ?_
  intro _ hw'
  obtain ⟨⟨dq, osq⟩, hw''⟩ := hw'
  subst hw''
  have hq := below_regrown w dq osq
  generalize grow (redrawn w dq) osq = W2 at hq ⊢
  go_wp2
  go_ret
  exact ⟨by rw [HE.out]; rfl, hq⟩
/-- Numbers as the program has them. -/
def ints (d : List Nat) : List Int := d.map fun i : Nat => (i : Int)
theorem ints_length (d : List Nat) : (ints d).length = d.length := by simp [ints]
theorem ints_at {d : List Nat} {i : Nat} (h : i < d.length) : ((ints d).map (Value.int .i64))[i]? = some (.int .i64 ((eat d i : Nat) : Int)) := by
  unfold ints eat
  rw [List.map_map, List.getElem?_map, List.getD_eq_getElem?_getD, List.getElem?_eq_getElem h]
  rfl
theorem ints_swp (d : List Nat) (j : Nat) : (((ints d).map (Value.int .i64)).set j (.int .i64 ((eat d (j - 1) : Nat) : Int))).set (j - 1) (.int .i64 ((eat d j : Nat) : Int)) = (ints (swp d j)).map (Value.int .i64) := by
  unfold ints swp
  simp only [List.map_map, List.map_set]
abbrev OwnN (w : World) (base g cap n : Nat) (d : List Nat) : Prop := w.ownsRow base 3 1 (.slice (some ⟨g, 0, none⟩) n cap) n ((ints d).map (Value.int .i64))

set_option maxRecDepth 100000 in
set_option maxHeartbeats 800000 in
theorem insI_any (l : List (Int × Int)) (h12 : l.length ≤ 12) (P g cap base : Nat) (d0 : List Nat) (hp0 : d0.Perm (List.range l.length)) {w : World} (hA : ArrAt w P (plA l)) (hP : P < base) (hO : OwnN w base g cap l.length d0) (hbg : base ≤ g) (hbw : base ≤ w.heap.size) (h1 : 1 ≤ l.length) :
    Calls Try.prog 95 #[.slice (some ⟨g, 0, none⟩) l.length cap, .int .i64 0, .int .i64 (l.length : Int), .func (Fn.func 71) #[] #[.pointer (some ⟨P, 0, none⟩)]] w fun e w' => e = .returned (.tuple #[]) ∧ (∃ d, d.Perm (List.range l.length) ∧ d.Pairwise (fun x y => ¬ ltP (pt l y) (pt l x)) ∧ OwnN w' base g cap l.length d) ∧ Below base w w' := by
  have HO := Lib.hid hO
  have HAA := Lib.hid hA
  have HP0 := Lib.hid hp0
  clear hO hA hp0
  go_enter Try.func95, Try.ntmps95
  go_wp2
  go_loopw [8] (fun i wr => ∃ (k : Nat) (d : List Nat), k + 1 ≤ l.length ∧ i = .int .i64 ((k : Int) + 1) ∧ Hid (OwnN wr base g cap l.length d) ∧ Hid (d.Perm (List.range l.length)) ∧ Hid (Ord (pt l) d k (k + 1)) ∧ Hid (ArrAt wr P (plA l)) ∧ Below base w wr) (fun i _ => l.length - (intOf i).toNat)
  case atStart => exact ⟨0, d0, h1, by go_num, HO, HP0, Lib.hid (Ord.start d0), HAA, Below.refl _ _⟩
  case round =>
    clear HO HP0 HAA
    obtain ⟨k, d, hk, rfl, HO, HPM, HORD, HAA, hbr⟩ := hrel
    by_cases hlt : k + 1 < l.length
    · have i1 : (k : Int) + 1 < (l.length : Int) := by omega
      have HN := Lib.hid (Ord.next HORD.out)
      clear HORD
      go_wp2
      go_loopw [9] (fun jv wr => ∃ (j : Nat) (d : List Nat), j ≤ k + 1 ∧ jv = .int .i64 (j : Int) ∧ Hid (OwnN wr base g cap l.length d) ∧ Hid (d.Perm (List.range l.length)) ∧ Hid (Ord (pt l) d (k + 1) j) ∧ Hid (ArrAt wr P (plA l)) ∧ Below base w wr) (fun jv _ => (intOf jv).toNat)
      case atStart => exact ⟨k + 1, d, Nat.le_refl _, by go_num, HO, HPM, HN, HAA, hbr⟩
      case round =>
        clear HO HPM HN HAA hbr
        obtain ⟨j, d, hj, rfl, HO, HPM, HORD, HAA, hbr⟩ := hrel
        obtain ⟨wo, rfl⟩ : ∃ wo, wo = wr := ⟨_, rfl⟩
        have hsr := hbr.size
        have hdl : d.length = l.length := by have := HPM.out.length_eq; simpa using this
        by_cases hj0 : j = 0
        · subst hj0
          have HS := Lib.hid (Ord.stop HORD.out (Nat.zero_le _) (.inl rfl))
          clear HORD
          rw [show ((0 : Nat) : Int) = 0 from rfl]
          go_upto_region 4 with fail
          go_big_region
          all_goals
            have hq : Below wo.heap.size wo wo.drew := (Below.refl _ _).drew
            have hq2 : Below base w wo.drew := hbr.drew
            have HO2 := Lib.hid (own_below HO.out hq)
            have HA2 := Lib.hid (HAA.out.below hq)
            clear HO HAA hbr hq
            go_wp2
            go_roundw
            case rel => exact ⟨k + 1, d, by omega, by go_num, HO2, HPM, HS, HA2, hq2⟩
            case measure => simp [intOf] <;> omega
        · obtain ⟨m, rfl⟩ : ∃ m, j = m + 1 := ⟨j - 1, by omega⟩
          have hcast : ((m + 1 : Nat) : Int) = (m : Int) + 1 := by omega
          rw [hcast]
          have v1 : IntKind.i64.wrap ((m : Int) + 1 - 1) = (m : Int) := by rw [IntWalk.i64_in _ (by omega)]; omega
          have v3 : IntKind.i64.wrap (m : Int) = (m : Int) := IntWalk.i64_in _ (by omega)
          have j0 : (0 : Int) < (m : Int) + 1 := by omega
          have j1 : (0 : Int) ≤ (m : Int) + 1 := by omega
          have j2 : (m : Int) + 1 < (l.length : Int) := by omega
          have m0 : (0 : Int) ≤ (m : Int) := by omega
          have m1 : (m : Int) < (l.length : Int) := by omega
          clear hcast
          have e0 := (World.ownsRow.cellAt HO.out (m + 1) (by omega)).trans (ints_at (d := d) (by omega))
          have e1 := (World.ownsRow.cellAt HO.out m (by omega)).trans (ints_at (d := d) (by omega))
          have f0 := World.ownsRow.frozenAt HO.out (m + 1)
          have f1 := World.ownsRow.frozenAt HO.out m
          have hA1 : eat d (m + 1) < l.length := by
            have hm : eat d (m + 1) ∈ d := by unfold eat; rw [List.getD_eq_getElem?_getD, List.getElem?_eq_getElem (by omega)]; exact List.getElem_mem _
            exact List.mem_range.1 ((HPM.out.mem_iff).1 hm)
          have hA2 : eat d m < l.length := by
            have hm : eat d m ∈ d := by unfold eat; rw [List.getD_eq_getElem?_getD, List.getElem?_eq_getElem (by omega)]; exact List.getElem_mem _
            exact List.mem_range.1 ((HPM.out.mem_iff).1 hm)
          have HSW := Lib.hid (fun h => Ord.swap HORD.out (Nat.succ_pos m) hj (by omega) h)
          have HST := Lib.hid (fun h => Ord.stop HORD.out hj (.inr h))
          have HSP := Lib.hid ((swp_perm d m (by omega)).trans HPM.out)
          have hlt9 := cmpP_lt (pt l (eat d (m + 1))) (pt l (eat d m))
          rw [Nat.add_sub_cancel] at HSW HST
          have HC := Lib.hid (fun W (h : ArrAt W P (plA l)) => ordC_any l h12 P (eat d (m + 1)) (eat d m) hA1 hA2 (w := W) h)
          obtain ⟨R, hR⟩ : ∃ z, z = cmpP (pt l (eat d (m + 1))) (pt l (eat d m)) := ⟨_, rfl⟩
          obtain ⟨U, hU⟩ : ∃ z : Int, z = ((eat d (m + 1) : Nat) : Int) := ⟨_, rfl⟩
          obtain ⟨V, hV⟩ : ∃ z : Int, z = ((eat d m : Nat) : Int) := ⟨_, rfl⟩
          rw [← hR] at HC hlt9
          have HU := Lib.hid hU
          have HV := Lib.hid hV
          rw [← hU] at e0 HC
          rw [← hV] at e1 HC
          have hsw := ints_swp d (m + 1)
          rw [Nat.add_sub_cancel, ← hU, ← hV] at hsw
          have HSWE := Lib.hid hsw
          have HLT := Lib.hid hlt9
          clear hR hU hV hsw hlt9 hA1 hA2 HORD
          have rge0 := fun dd os => cell_regrown e0 dd os
          have rge1 := fun dd os => cell_regrown e1 dd os
          have HCR := fun dd os => HC.out (grow (redrawn wo dd) os) (HAA.out.below (below_regrown wo dd os))
          go_upto_region 4 with fail
          by_cases hR : R < 0
          all_goals
            refine wp_region_quiet_below (by kernel_rfl) (by kernel_rfl) ?_
            repeat (quiet_step (first | (with_reducible exact Calls.regrown_of (HCR _ _))))
            refine wpQuiet_nil ?_
            intro _ hw'
            obtain ⟨⟨dq, osq⟩, hw''⟩ := hw'
            subst hw''
            have hq := below_regrown wo dq osq
            generalize grow (redrawn wo dq) osq = W2 at hq ⊢
            have hB2 : Below base w W2 := hbr.trans (hq.mono (Nat.le_trans hbw hsr))
            have ho2 := own_below HO.out hq
            have HA2 := Lib.hid (HAA.out.below hq)
            clear HO HAA hbr rge0 rge1 HCR hq e0 e1 f0 f1
          · have e0 := (World.ownsRow.cellAt ho2 (m + 1) (by omega)).trans (ints_at (d := d) (by omega))
            have e1 := (World.ownsRow.cellAt ho2 m (by omega)).trans (ints_at (d := d) (by omega))
            rw [← HU.out] at e0
            rw [← HV.out] at e1
            have f0 := World.ownsRow.frozenAt ho2 (m + 1)
            have f1 := World.ownsRow.frozenAt ho2 m
            have hs1 := (ho2.stored (m + 1) (.int .i64 V)).1.stored m (.int .i64 U)
            have hs2 := gb_trans (ho2.stored (m + 1) (.int .i64 V)).2 hs1.2
            rw [HSWE.out] at hs1
            have HS1 := Lib.hid hs1.1
            have HS2 := Lib.hid hs2
            have HSQ := Lib.hid (HSW.out (HLT.out.1 hR))
            have n1 : ¬ m + 1 = m := by omega
            have n2 : ¬ m = m + 1 := by omega
            clear ho2 hs1 hs2 HLT HST HSW
            go_upto_region 6 with fail
            go_big_region
            have hz2 : base ≤ W2.heap.size := Nat.le_trans hbw hB2.size
            have hB3 := (hB2.grown HS2.out hz2 (fun x e => by cases e; exact hbg)).drew
            have HA3 := Lib.hid ((HA2.out.other HS2.out (by intro e; have := Option.some.inj e; omega)).below ((Below.refl _ _).drew))
            have HO3 := Lib.hid (own_below HS1.out ((Below.refl _ _).drew))
            have hlen := (swp_length d (m + 1))
            clear HA2 HS1 HS2 hB2 hz2 e0 e1 f0 f1 hlen
            go_wp2
            go_roundw
            case rel => exact ⟨m, swp d (m + 1), by omega, by go_num, HO3, HSP, HSQ, HA3, hB3⟩
            case measure => simp [intOf] <;> omega
          · have HSQ := Lib.hid (HST.out (fun h => hR (HLT.out.2 h)))
            have HO2 := Lib.hid ho2
            clear HLT HST HSW ho2
            go_wp2
            go_roundw
            case rel => exact ⟨k + 1, d, by omega, by go_num, HO2, HPM, HSQ, HA2, hB2⟩
            case measure => simp [intOf] <;> omega
    · have hke : l.length = k + 1 := by omega
      have i9 : ¬ (k : Int) + 1 < (l.length : Int) := by omega
      have HF := Lib.hid (show ∃ d, d.Perm (List.range l.length) ∧ d.Pairwise (fun x y => ¬ ltP (pt l y) (pt l x)) ∧ OwnN wr base g cap l.length d from ⟨d, HPM.out, HORD.out.sorted (by have := HPM.out.length_eq; simp at this; omega), HO.out⟩)
      clear hke HO HPM HORD
      go_wp2
      go_end0
      exact ⟨rfl, HF.out, hbr⟩

end Go.Proofs.Ytfimjfchdaioeaa
