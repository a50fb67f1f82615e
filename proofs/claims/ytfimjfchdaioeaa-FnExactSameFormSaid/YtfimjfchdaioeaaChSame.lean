/- The same form, both sides. No conditions but those written in each theorem. -/
import Derived.Test.YtfimjfchdaioeaaChSP
import Derived.Test.YtfimjfchdaioeaaChAEq
import Derived.Test.YtfimjfchdaioeaaChChg
import Derived.Deep.RegionHeld3
import Derived.Deep.DrawnRows
import Derived.IntWalk
import Derived.StillTailTactics
import Derived.Deep.DeepCutAuto
import Derived.Deep.OwnRows
import Derived.Deep.MidRow
import Derived.Laws.Rows
import Derived.Lib.LazyBuf
import Derived.Lib.QuietBelow
namespace Go.Proofs.Ytfimjfchdaioeaa
open Go.RowKit
open Go.Sort (grow)


attribute [local go_sem ↓] Go.wp_at_zero Go.wp_at_succ

theorem allOn_perm {l d : List (Int × Int)} (h : d.Perm l) (ho : allOn l = true) : allOn d = true := by
  unfold allOn allP at *
  rw [List.all_eq_true] at *
  exact fun p hp => ho p ((h.mem_iff).1 hp)
theorem rowN_wf {l : List (Int × Int)} (h : allOn l = true) (c : Nat) : (Lit.int .i64 (rowN l l.length c)).wf = true := by
  unfold rowN
  by_cases h1 : c < l.length * 2
  · rw [if_pos h1]
    have hw := wf_on (allOn_at h (c / 2) (by omega))
    split
    · exact hw.1
    · exact hw.2
  · rw [if_neg h1]
    exact WalkArith.wf_i64 (by omega)
theorem srtL_length (l : List (Int × Int)) : (srtL l).length = l.length := (srtL_perm l).length_eq
theorem list_of_rowN {l d : List (Int × Int)} (hl : l.length = d.length) (h12 : l.length ≤ 12) (h : ∀ c, c < 24 → rowN l l.length c = rowN d d.length c) : l = d := by
  apply List.ext_getElem hl
  intro i hi hi'
  have h0 := h (i * 2) (by omega)
  have h1 := h (i * 2 + 1) (by omega)
  unfold rowN at h0 h1
  rw [if_pos (by omega), if_pos (by omega), if_pos (by omega), if_pos (by omega), Nat.mul_div_cancel _ (by omega)] at h0
  rw [if_pos (by omega), if_neg (by omega), if_pos (by omega), if_neg (by omega), show (i * 2 + 1) / 2 = i by omega] at h1
  have e1 := pt_get hi
  have e2 := pt_get hi'
  rw [← e1, ← e2]
  unfold pt
  rw [h0, h1]
set_option maxRecDepth 100000 in
set_option maxHeartbeats 2000000 in
theorem placesAlong_any (a : Option Addr) (cap : Nat) (l : List (Int × Int)) (h12 : l.length ≤ 12) (h1 : 1 ≤ l.length) {w : World} (ha : PairsAt w a l) :
    Calls Try.prog 68 #[.slice a l.length cap] w fun e w' => e = .returned (.agg (plA (srtL l))) ∧ Below w.heap.size w w' := by
  have HPA := Lib.hid (fun (W : World) (hb : Below w.heap.size w W) => placesOf_any a cap l h12 (ha.below hb))
  clear ha
  have i0 : (l.length : Int) ≤ 12 := by omega
  have i1 : (0 : Int) ≤ (l.length : Int) := by omega
  go_enter Try.func68, Try.ntmps68
  go_upto_region 2 with (first | (refine arr_store rfl (.tmp 3) (.tmp 5) rfl wa.heap.size rfl zA (plA l) rfl (arr_new wa zA) rfl (plA_arr l) ?_; intro W3 hA3 hg3) | (go_at_call 66; ((with_reducible refine (HPA.out _ (by repeat (first | exact Below.refl _ _ | assumption | refine Below.drew ?_ | refine below_drewN ?_ _ | refine Below.alloc ?_ (by first | omega | (simp; done) | (simp; omega)) _ | refine Below.setCell ?_ (by first | omega | (simp; done) | (simp; omega)) _ | refine Below.trans ?_ (Below.mono (by assumption) (by first | omega | (simp; done) | (simp; omega)))))).mono ?_); rintro e wa ⟨rfl, hba⟩; have hsa := hba.size; (try simp at hsa))))
  have hwa : w.heap.size < wa.heap.size := (by first | omega | (simp; done) | (simp; omega))
  have hB0 : Below w.heap.size w (w.alloc (.cells zA 72)) := (by repeat (first | exact Below.refl _ _ | assumption | refine Below.drew ?_ | refine below_drewN ?_ _ | refine Below.alloc ?_ (by first | omega | (simp; done) | (simp; omega)) _ | refine Below.setCell ?_ (by first | omega | (simp; done) | (simp; omega)) _ | refine Below.trans ?_ (Below.mono (by assumption) (by first | omega | (simp; done) | (simp; omega)))))
  have hB3 : Below w.heap.size w W3 := gb_below ((by repeat (first | exact Below.refl _ _ | assumption | refine Below.drew ?_ | refine below_drewN ?_ _ | refine Below.alloc ?_ (by first | omega | (simp; done) | (simp; omega)) _ | refine Below.setCell ?_ (by first | omega | (simp; done) | (simp; omega)) _ | refine Below.trans ?_ (Below.mono (by assumption) (by first | omega | (simp; done) | (simp; omega))))) : Below w.heap.size w (wa.alloc (.cells zA 72))) hg3 (by omega)
  have hT : ArrAt W3 w.heap.size zA := ((((arr_new w zA).below hba).below ((Below.refl _ wa).alloc (Nat.le_refl _) _))).other hg3 (by intro e; have := Option.some.inj e; omega)
  obtain ⟨P, hP⟩ : ∃ z, z = wa.heap.size := ⟨_, rfl⟩
  rw [← hP] at hA3 hwa
  have HS := Lib.hid (sortP_sort l h12 P P hA3 (Nat.le_refl _) h1)
  have HT := Lib.hid hT
  have HB := Lib.hid hB3
  clear hba hg3 hA3 HPA hB0 hB3 hT
  rw [← hP]
  clear hP
  go_upto_region 3 with (go_at_call 82; ((with_reducible refine HS.out.mono ?_); rintro e w5 ⟨rfl, ⟨d, hd1, hd2, hd3⟩, hb5⟩))
  obtain rfl := srt_unique hd1 hd2
  have hT5 : ArrAt w5 w.heap.size zA := (hb5.block _ hwa).trans HT.out
  refine wp_region_lit ?_
  refine arr_load rfl (.tmp 3) rfl P rfl (plA (srtL l)) hd3 (plA_size _) ?_
  refine arr_store rfl (.tmp 2) (.tmp 10) rfl w.heap.size rfl zA (plA (srtL l)) rfl hT5 rfl (plA_arr _) ?_
  intro W6 hA6 hg6
  refine wpList_nil ?_
  go_wp2
  exact bodyPost_ret (arr_results rfl _ _ w.heap.size (plA (srtL l)) rfl hA6 (plA_size _)) rfl ⟨rfl, gb_below (HB.out.trans (hb5.mono (by omega))) hg6 (Nat.le_refl _)⟩
/-- Are both charts? The same spots? -/
def sfO (l1 l2 : List (Int × Int)) : Bool := chOk l1 && chOk l2
def sfV (l1 l2 : List (Int × Int)) : Bool := decide (srtL l1 = srtL l2)
def sfB (l1 l2 : List (Int × Int)) : Bool := sfO l1 l2 && sfV l1 l2
theorem sfV_len {l1 l2 : List (Int × Int)} (h : l1.length ≠ l2.length) : sfV l1 l2 = false := decide_eq_false (fun e => h (by rw [← srtL_length l1, ← srtL_length l2, e]))
theorem sfV_perm {l1 l2 : List (Int × Int)} : sfV l1 l2 = true ↔ l1.Perm l2 := by
  unfold sfV
  rw [decide_eq_true_eq]
  constructor
  · intro e
    exact (srtL_perm l1).symm.trans (by rw [e]; exact srtL_perm l2)
  · intro h
    exact srt_unique ((srtL_perm l1).trans h) (srtL_sorted l1)

set_option maxHeartbeats 1000000 in
theorem sameI_no1 (a1 : Option Addr) (cap1 : Nat) (l1 : List (Int × Int)) (hl1 : l1.length ≤ 1048576) (a2 : Option Addr) (cap2 : Nat) (l2 : List (Int × Int)) (hl2 : l2.length ≤ 1048576) {w : World} (ha : PairsAt w a1 l1) (hb : PairsAt w a2 l2) (h1 : chOk l1 = false) :
    Calls Try.prog 40 #[.slice a1 l1.length cap1, .slice a2 l2.length cap2] w fun e w' => e = .returned (.tuple #[.bool false, .bool false]) ∧ Below w.heap.size w w' := by
  have HGA := Lib.hid (fun (W : World) (hb' : Below w.heap.size w W) => isChart_any a1 cap1 l1 hl1 (ha.below hb'))
  have HGB := Lib.hid (fun (W : World) (hb' : Below w.heap.size w W) => isChart_any a2 cap2 l2 hl2 (hb.below hb'))
  rw [h1] at HGA
  clear h1
  go_enter Try.func40, Try.ntmps40
  go_wp2_with (first | (go_at_call 17; ((with_reducible refine (HGA.out _ (by repeat (first | exact Below.refl _ _ | assumption | refine Below.drew ?_ | refine below_drewN ?_ _ | refine Below.alloc ?_ (by first | omega | (simp; done) | (simp; omega)) _ | refine Below.setCell ?_ (by first | omega | (simp; done) | (simp; omega)) _ | refine Below.trans ?_ (Below.mono (by assumption) (by first | omega | (simp; done) | (simp; omega)))))).mono ?_); rintro e w1 ⟨rfl, hb1⟩; have hs1 := hb1.size; (try simp at hs1))) | (go_at_call 17; ((with_reducible refine (HGB.out _ (by repeat (first | exact Below.refl _ _ | assumption | refine Below.drew ?_ | refine below_drewN ?_ _ | refine Below.alloc ?_ (by first | omega | (simp; done) | (simp; omega)) _ | refine Below.setCell ?_ (by first | omega | (simp; done) | (simp; omega)) _ | refine Below.trans ?_ (Below.mono (by assumption) (by first | omega | (simp; done) | (simp; omega)))))).mono ?_); rintro e w1 ⟨rfl, hb1⟩; have hs1 := hb1.size; (try simp at hs1))))
  go_ret2
  exact ⟨rfl, (by repeat (first | exact Below.refl _ _ | assumption | refine Below.drew ?_ | refine below_drewN ?_ _ | refine Below.alloc ?_ (by first | omega | (simp; done) | (simp; omega)) _ | refine Below.setCell ?_ (by first | omega | (simp; done) | (simp; omega)) _ | refine Below.trans ?_ (Below.mono (by assumption) (by first | omega | (simp; done) | (simp; omega)))))⟩

set_option maxHeartbeats 1000000 in
theorem sameI_no2 (a1 : Option Addr) (cap1 : Nat) (l1 : List (Int × Int)) (hl1 : l1.length ≤ 1048576) (a2 : Option Addr) (cap2 : Nat) (l2 : List (Int × Int)) (hl2 : l2.length ≤ 1048576) {w : World} (ha : PairsAt w a1 l1) (hb : PairsAt w a2 l2) (h1 : chOk l1 = true) (h2 : chOk l2 = false) :
    Calls Try.prog 40 #[.slice a1 l1.length cap1, .slice a2 l2.length cap2] w fun e w' => e = .returned (.tuple #[.bool false, .bool false]) ∧ Below w.heap.size w w' := by
  have HGA := Lib.hid (fun (W : World) (hb' : Below w.heap.size w W) => isChart_any a1 cap1 l1 hl1 (ha.below hb'))
  have HGB := Lib.hid (fun (W : World) (hb' : Below w.heap.size w W) => isChart_any a2 cap2 l2 hl2 (hb.below hb'))
  rw [h1] at HGA
  rw [h2] at HGB
  clear h1 h2
  go_enter Try.func40, Try.ntmps40
  go_wp2_with (first | (go_at_call 17; ((with_reducible refine (HGA.out _ (by repeat (first | exact Below.refl _ _ | assumption | refine Below.drew ?_ | refine below_drewN ?_ _ | refine Below.alloc ?_ (by first | omega | (simp; done) | (simp; omega)) _ | refine Below.setCell ?_ (by first | omega | (simp; done) | (simp; omega)) _ | refine Below.trans ?_ (Below.mono (by assumption) (by first | omega | (simp; done) | (simp; omega)))))).mono ?_); rintro e w1 ⟨rfl, hb1⟩; have hs1 := hb1.size; (try simp at hs1))) | (go_at_call 17; ((with_reducible refine (HGB.out _ (by repeat (first | exact Below.refl _ _ | assumption | refine Below.drew ?_ | refine below_drewN ?_ _ | refine Below.alloc ?_ (by first | omega | (simp; done) | (simp; omega)) _ | refine Below.setCell ?_ (by first | omega | (simp; done) | (simp; omega)) _ | refine Below.trans ?_ (Below.mono (by assumption) (by first | omega | (simp; done) | (simp; omega)))))).mono ?_); rintro e w1 ⟨rfl, hb1⟩; have hs1 := hb1.size; (try simp at hs1))))
  go_ret2
  exact ⟨rfl, (by repeat (first | exact Below.refl _ _ | assumption | refine Below.drew ?_ | refine below_drewN ?_ _ | refine Below.alloc ?_ (by first | omega | (simp; done) | (simp; omega)) _ | refine Below.setCell ?_ (by first | omega | (simp; done) | (simp; omega)) _ | refine Below.trans ?_ (Below.mono (by assumption) (by first | omega | (simp; done) | (simp; omega)))))⟩

set_option maxRecDepth 100000 in
set_option maxHeartbeats 1000000 in
theorem sameI_ne (a1 : Option Addr) (cap1 : Nat) (l1 : List (Int × Int)) (hl1 : l1.length ≤ 1048576) (a2 : Option Addr) (cap2 : Nat) (l2 : List (Int × Int)) (hl2 : l2.length ≤ 1048576) {w : World} (ha : PairsAt w a1 l1) (hb : PairsAt w a2 l2) (h1 : chOk l1 = true) (h2 : chOk l2 = true) (h3 : l1.length ≠ l2.length) :
    Calls Try.prog 40 #[.slice a1 l1.length cap1, .slice a2 l2.length cap2] w fun e w' => e = .returned (.tuple #[.bool false, .bool true]) ∧ Below w.heap.size w w' := by
  have HGA := Lib.hid (fun (W : World) (hb' : Below w.heap.size w W) => isChart_any a1 cap1 l1 hl1 (ha.below hb'))
  have HGB := Lib.hid (fun (W : World) (hb' : Below w.heap.size w W) => isChart_any a2 cap2 l2 hl2 (hb.below hb'))
  obtain ⟨a1', _, a3, a4⟩ := chOk_parts h1
  obtain ⟨b1', _, b3, b4⟩ := chOk_parts h2
  have HPA := Lib.hid (fun (W : World) (hb' : Below w.heap.size w W) => placesAlong_any a1 cap1 l1 a4 a3 (ha.below hb'))
  have HPB := Lib.hid (fun (W : World) (hb' : Below w.heap.size w W) => placesAlong_any a2 cap2 l2 b4 b3 (hb.below hb'))
  have h4 : ¬ (l1.length : Int) = (l2.length : Int) := fun e => h3 (Int.ofNat.inj e)
  have u1 : ((l1.length : Int) == (l2.length : Int)) = false := by simpa using h4
  rw [h1] at HGA
  rw [h2] at HGB
  clear h1 h2 h3 ha hb a1' b1'
  go_enter Try.func40, Try.ntmps40
  go_wp2_with (first | (go_at_call 17; ((with_reducible refine (HGA.out _ (by repeat (first | exact Below.refl _ _ | assumption | refine Below.drew ?_ | refine below_drewN ?_ _ | refine Below.alloc ?_ (by first | omega | (simp; done) | (simp; omega)) _ | refine Below.setCell ?_ (by first | omega | (simp; done) | (simp; omega)) _ | refine Below.trans ?_ (Below.mono (by assumption) (by first | omega | (simp; done) | (simp; omega)))))).mono ?_); rintro e w1 ⟨rfl, hb1⟩; have hs1 := hb1.size; (try simp at hs1))) | (go_at_call 17; ((with_reducible refine (HGB.out _ (by repeat (first | exact Below.refl _ _ | assumption | refine Below.drew ?_ | refine below_drewN ?_ _ | refine Below.alloc ?_ (by first | omega | (simp; done) | (simp; omega)) _ | refine Below.setCell ?_ (by first | omega | (simp; done) | (simp; omega)) _ | refine Below.trans ?_ (Below.mono (by assumption) (by first | omega | (simp; done) | (simp; omega)))))).mono ?_); rintro e w1 ⟨rfl, hb1⟩; have hs1 := hb1.size; (try simp at hs1))) | (go_at_call 68; ((with_reducible refine (HPA.out _ (by repeat (first | exact Below.refl _ _ | assumption | refine Below.drew ?_ | refine below_drewN ?_ _ | refine Below.alloc ?_ (by first | omega | (simp; done) | (simp; omega)) _ | refine Below.setCell ?_ (by first | omega | (simp; done) | (simp; omega)) _ | refine Below.trans ?_ (Below.mono (by assumption) (by first | omega | (simp; done) | (simp; omega)))))).mono ?_); rintro e wa ⟨rfl, hba⟩; have hsa := hba.size; (try simp at hsa))) | (go_at_call 68; ((with_reducible refine (HPB.out _ (by repeat (first | exact Below.refl _ _ | assumption | refine Below.drew ?_ | refine below_drewN ?_ _ | refine Below.alloc ?_ (by first | omega | (simp; done) | (simp; omega)) _ | refine Below.setCell ?_ (by first | omega | (simp; done) | (simp; omega)) _ | refine Below.trans ?_ (Below.mono (by assumption) (by first | omega | (simp; done) | (simp; omega)))))).mono ?_); rintro e wb ⟨rfl, hbb⟩; have hsb := hbb.size; (try simp at hsb))))
  go_ret2
  exact ⟨rfl, (by repeat (first | exact Below.refl _ _ | assumption | refine Below.drew ?_ | refine below_drewN ?_ _ | refine Below.alloc ?_ (by first | omega | (simp; done) | (simp; omega)) _ | refine Below.setCell ?_ (by first | omega | (simp; done) | (simp; omega)) _ | refine Below.trans ?_ (Below.mono (by assumption) (by first | omega | (simp; done) | (simp; omega)))))⟩

set_option maxRecDepth 100000 in
set_option maxHeartbeats 1000000 in
theorem sameI_eq (a1 : Option Addr) (cap1 : Nat) (l1 : List (Int × Int)) (hl1 : l1.length ≤ 1048576) (a2 : Option Addr) (cap2 : Nat) (l2 : List (Int × Int)) (hl2 : l2.length ≤ 1048576) {w : World} (ha : PairsAt w a1 l1) (hb : PairsAt w a2 l2) (h1 : chOk l1 = true) (h2 : chOk l2 = true) (h3 : l1.length = l2.length) (R : Bool) (hR : R = sfV l1 l2) :
    Calls Try.prog 40 #[.slice a1 l1.length cap1, .slice a2 l2.length cap2] w fun e w' => e = .returned (.tuple #[.bool R, .bool true]) ∧ Below w.heap.size w w' := by
  have HGA := Lib.hid (fun (W : World) (hb' : Below w.heap.size w W) => isChart_any a1 cap1 l1 hl1 (ha.below hb'))
  have HGB := Lib.hid (fun (W : World) (hb' : Below w.heap.size w W) => isChart_any a2 cap2 l2 hl2 (hb.below hb'))
  obtain ⟨a1', _, a3, a4⟩ := chOk_parts h1
  obtain ⟨b1', _, b3, b4⟩ := chOk_parts h2
  have HPA := Lib.hid (fun (W : World) (hb' : Below w.heap.size w W) => placesAlong_any a1 cap1 l1 a4 a3 (ha.below hb'))
  have HPB := Lib.hid (fun (W : World) (hb' : Below w.heap.size w W) => placesAlong_any a2 cap2 l2 b4 b3 (hb.below hb'))
  have u1 : ((l1.length : Int) == (l2.length : Int)) = true := by rw [h3]; simp
  rw [h1] at HGA
  rw [h2] at HGB
  have heq := fun W => eqArr (l1 := srtL l1) (l2 := srtL l2) (fun c _ => rowN_wf (allOn_perm (srtL_perm l1) a1') c) (fun c _ => rowN_wf (allOn_perm (srtL_perm l2) b1') c) W
  have HEQ : ∀ W, (Op.equalIn 10000 72 (.agg (plA (srtL l1))) (.agg (plA (srtL l2)))).run Try.prog W = .ok R W := fun W => by
    obtain ⟨r, hr, hiff⟩ := heq W
    have e : r = R := by
      rw [hR, Bool.eq_iff_iff, hiff]
      unfold sfV
      rw [decide_eq_true_eq]
      constructor
      · exact fun h => list_of_rowN (by rw [srtL_length, srtL_length]; exact h3) (by rw [srtL_length]; exact a4) h
      · intro h c _
        rw [h]
    rw [← e]
    exact hr
  have heg : Try.prog.eqGuardType Try.prog.depth 72 = false := by kernel_rfl
  clear heq hR
  clear h1 h2 h3 ha hb a1' b1'
  go_enter Try.func40, Try.ntmps40
  go_wp2_with (first | (go_at_call 17; ((with_reducible refine (HGA.out _ (by repeat (first | exact Below.refl _ _ | assumption | refine Below.drew ?_ | refine below_drewN ?_ _ | refine Below.alloc ?_ (by first | omega | (simp; done) | (simp; omega)) _ | refine Below.setCell ?_ (by first | omega | (simp; done) | (simp; omega)) _ | refine Below.trans ?_ (Below.mono (by assumption) (by first | omega | (simp; done) | (simp; omega)))))).mono ?_); rintro e w1 ⟨rfl, hb1⟩; have hs1 := hb1.size; (try simp at hs1))) | (go_at_call 17; ((with_reducible refine (HGB.out _ (by repeat (first | exact Below.refl _ _ | assumption | refine Below.drew ?_ | refine below_drewN ?_ _ | refine Below.alloc ?_ (by first | omega | (simp; done) | (simp; omega)) _ | refine Below.setCell ?_ (by first | omega | (simp; done) | (simp; omega)) _ | refine Below.trans ?_ (Below.mono (by assumption) (by first | omega | (simp; done) | (simp; omega)))))).mono ?_); rintro e w1 ⟨rfl, hb1⟩; have hs1 := hb1.size; (try simp at hs1))) | (go_at_call 68; ((with_reducible refine (HPA.out _ (by repeat (first | exact Below.refl _ _ | assumption | refine Below.drew ?_ | refine below_drewN ?_ _ | refine Below.alloc ?_ (by first | omega | (simp; done) | (simp; omega)) _ | refine Below.setCell ?_ (by first | omega | (simp; done) | (simp; omega)) _ | refine Below.trans ?_ (Below.mono (by assumption) (by first | omega | (simp; done) | (simp; omega)))))).mono ?_); rintro e wa ⟨rfl, hba⟩; have hsa := hba.size; (try simp at hsa))) | (go_at_call 68; ((with_reducible refine (HPB.out _ (by repeat (first | exact Below.refl _ _ | assumption | refine Below.drew ?_ | refine below_drewN ?_ _ | refine Below.alloc ?_ (by first | omega | (simp; done) | (simp; omega)) _ | refine Below.setCell ?_ (by first | omega | (simp; done) | (simp; omega)) _ | refine Below.trans ?_ (Below.mono (by assumption) (by first | omega | (simp; done) | (simp; omega)))))).mono ?_); rintro e wb ⟨rfl, hbb⟩; have hsb := hbb.size; (try simp at hsb))))
  go_ret2
  exact ⟨rfl, (by repeat (first | exact Below.refl _ _ | assumption | refine Below.drew ?_ | refine below_drewN ?_ _ | refine Below.alloc ?_ (by first | omega | (simp; done) | (simp; omega)) _ | refine Below.setCell ?_ (by first | omega | (simp; done) | (simp; omega)) _ | refine Below.trans ?_ (Below.mono (by assumption) (by first | omega | (simp; done) | (simp; omega)))))⟩

theorem sameI_any (a1 : Option Addr) (cap1 : Nat) (l1 : List (Int × Int)) (hl1 : l1.length ≤ 1048576) (a2 : Option Addr) (cap2 : Nat) (l2 : List (Int × Int)) (hl2 : l2.length ≤ 1048576) {w : World} (ha : PairsAt w a1 l1) (hb : PairsAt w a2 l2) :
    Calls Try.prog 40 #[.slice a1 l1.length cap1, .slice a2 l2.length cap2] w fun e w' => e = .returned (.tuple #[.bool (sfB l1 l2), .bool (sfO l1 l2)]) ∧ Below w.heap.size w w' := by
  unfold sfB sfO
  cases h1 : chOk l1
  · exact sameI_no1 a1 cap1 l1 hl1 a2 cap2 l2 hl2 ha hb h1
  · cases h2 : chOk l2
    · exact sameI_no2 a1 cap1 l1 hl1 a2 cap2 l2 hl2 ha hb h1 h2
    · by_cases h3 : l1.length = l2.length
      · exact sameI_eq a1 cap1 l1 hl1 a2 cap2 l2 hl2 ha hb h1 h2 h3 _ rfl
      · rw [sfV_len h3]
        exact sameI_ne a1 cap1 l1 hl1 a2 cap2 l2 hl2 ha hb h1 h2 h3

set_option maxRecDepth 100000 in
set_option maxHeartbeats 2000000 in
theorem chFind_no (a : Option Addr) (cap : Nat) (l : List (Int × Int)) (hl : l.length ≤ 1048576) (x y : Int) {w : World} (ha : PairsAt w a l) (hn : (x, y) ∉ l) :
    Calls Try.prog 67 #[.slice a l.length cap, .agg #[.int .i64 x, .int .i64 y]] w fun e w' => e = .returned (.int .i64 (-1)) ∧ Below w.heap.size w w' := by
  have HA := Lib.hid ha
  clear ha
  go_enter Try.func67, Try.ntmps67
  go_wp2
  go_loopw [9] (fun i wr => ∃ k : Nat, k ≤ l.length ∧ i = .int .i64 (k : Int) ∧ Hid (∀ j, j < k → pt l j ≠ (x, y)) ∧ wr.cell? ⟨w.heap.size, 0, none⟩ = some (.int .i64 x) ∧ wr.cell? ⟨w.heap.size, 1, none⟩ = some (.int .i64 y) ∧ Below w.heap.size w wr ∧ w.heap.size < wr.heap.size) (fun i _ => l.length - (intOf i).toNat)
  case atStart => exact ⟨0, Nat.zero_le _, rfl, Lib.hid (fun j h => absurd h (Nat.not_lt_zero j)), by go_simp, by go_simp, (by repeat (first | exact Below.refl _ _ | assumption | refine Below.drew ?_ | refine below_drewN ?_ _ | refine Below.alloc ?_ (by first | omega | (simp; done) | (simp; omega)) _ | refine Below.setCell ?_ (by first | omega | (simp; done) | (simp; omega)) _ | refine Below.trans ?_ (Below.mono (by assumption) (by first | omega | (simp; done) | (simp; omega))))), by simp⟩
  case round =>
    obtain ⟨k, hk, rfl, HNO, c0, c1, hbr, hwr⟩ := hrel
    have hsr := hbr.size
    by_cases hlt : k < l.length
    · obtain ⟨b, off, rfl, e0, e1⟩ := (HA.out.below hbr) k hlt
      have n1 : ¬ w.heap.size = wr.heap.size := by omega
      have n2 : ¬ wr.heap.size = w.heap.size := by omega
      by_cases hs : pt l k = (x, y)
      · exact absurd (by rw [← hs, pt_get hlt]; exact List.getElem_mem hlt) hn
      · have HNO2 := Lib.hid (ext_lt (p := fun j => pt l j ≠ (x, y)) HNO.out hs)
        have hq : (sx l k == x) = false ∨ ((sx l k == x) = true ∧ (sy l k == y) = false) := by
          by_cases u : sx l k = x
          · refine .inr ⟨by simpa using u, ?_⟩
            have : sy l k ≠ y := fun v => hs (by unfold pt; rw [u, v])
            simpa using this
          · exact .inl (by simpa using u)
        clear hs HNO
        rcases hq with u1 | ⟨u1, u2⟩
        all_goals
          go_wp2
          go_roundw
          case rel => exact ⟨k + 1, by omega, by go_num, HNO2, by go_simp, by go_simp, (by repeat (first | exact Below.refl _ _ | assumption | refine Below.drew ?_ | refine below_drewN ?_ _ | refine Below.alloc ?_ (by first | omega | (simp; done) | (simp; omega)) _ | refine Below.setCell ?_ (by first | omega | (simp; done) | (simp; omega)) _ | refine Below.trans ?_ (Below.mono (by assumption) (by first | omega | (simp; done) | (simp; omega))))), by simp; omega⟩
          case measure => simp [intOf]; omega
    · obtain rfl : k = l.length := by omega
      go_wp2
      go_ret
      exact ⟨rfl, (by repeat (first | exact Below.refl _ _ | assumption | refine Below.drew ?_ | refine below_drewN ?_ _ | refine Below.alloc ?_ (by first | omega | (simp; done) | (simp; omega)) _ | refine Below.setCell ?_ (by first | omega | (simp; done) | (simp; omega)) _ | refine Below.trans ?_ (Below.mono (by assumption) (by first | omega | (simp; done) | (simp; omega)))))⟩

set_option maxRecDepth 100000 in
set_option maxHeartbeats 2000000 in
theorem chFind_yes (a : Option Addr) (cap : Nat) (l : List (Int × Int)) (hl : l.length ≤ 1048576) (x y : Int) {w : World} (ha : PairsAt w a l) (hm : (x, y) ∈ l) :
    Calls Try.prog 67 #[.slice a l.length cap, .agg #[.int .i64 x, .int .i64 y]] w fun e w' => (∃ r : Nat, e = .returned (.int .i64 (r : Int))) ∧ Below w.heap.size w w' := by
  have HA := Lib.hid ha
  clear ha
  go_enter Try.func67, Try.ntmps67
  go_wp2
  go_loopw [9] (fun i wr => ∃ k : Nat, k ≤ l.length ∧ i = .int .i64 (k : Int) ∧ Hid (∀ j, j < k → pt l j ≠ (x, y)) ∧ wr.cell? ⟨w.heap.size, 0, none⟩ = some (.int .i64 x) ∧ wr.cell? ⟨w.heap.size, 1, none⟩ = some (.int .i64 y) ∧ Below w.heap.size w wr ∧ w.heap.size < wr.heap.size) (fun i _ => l.length - (intOf i).toNat)
  case atStart => exact ⟨0, Nat.zero_le _, rfl, Lib.hid (fun j h => absurd h (Nat.not_lt_zero j)), by go_simp, by go_simp, (by repeat (first | exact Below.refl _ _ | assumption | refine Below.drew ?_ | refine below_drewN ?_ _ | refine Below.alloc ?_ (by first | omega | (simp; done) | (simp; omega)) _ | refine Below.setCell ?_ (by first | omega | (simp; done) | (simp; omega)) _ | refine Below.trans ?_ (Below.mono (by assumption) (by first | omega | (simp; done) | (simp; omega))))), by simp⟩
  case round =>
    obtain ⟨k, hk, rfl, HNO, c0, c1, hbr, hwr⟩ := hrel
    have hsr := hbr.size
    by_cases hlt : k < l.length
    · obtain ⟨b, off, rfl, e0, e1⟩ := (HA.out.below hbr) k hlt
      have n1 : ¬ w.heap.size = wr.heap.size := by omega
      have n2 : ¬ wr.heap.size = w.heap.size := by omega
      by_cases hs : pt l k = (x, y)
      · have hx : sx l k = x := congrArg Prod.fst hs
        have hy : sy l k = y := congrArg Prod.snd hs
        rw [hx] at e0
        rw [hy] at e1
        clear hs hx hy
        go_wp2
        go_ret
        exact ⟨⟨k, rfl⟩, (by repeat (first | exact Below.refl _ _ | assumption | refine Below.drew ?_ | refine below_drewN ?_ _ | refine Below.alloc ?_ (by first | omega | (simp; done) | (simp; omega)) _ | refine Below.setCell ?_ (by first | omega | (simp; done) | (simp; omega)) _ | refine Below.trans ?_ (Below.mono (by assumption) (by first | omega | (simp; done) | (simp; omega)))))⟩
      · have HNO2 := Lib.hid (ext_lt (p := fun j => pt l j ≠ (x, y)) HNO.out hs)
        have hq : (sx l k == x) = false ∨ ((sx l k == x) = true ∧ (sy l k == y) = false) := by
          by_cases u : sx l k = x
          · refine .inr ⟨by simpa using u, ?_⟩
            have : sy l k ≠ y := fun v => hs (by unfold pt; rw [u, v])
            simpa using this
          · exact .inl (by simpa using u)
        clear hs HNO
        rcases hq with u1 | ⟨u1, u2⟩
        all_goals
          go_wp2
          go_roundw
          case rel => exact ⟨k + 1, by omega, by go_num, HNO2, by go_simp, by go_simp, (by repeat (first | exact Below.refl _ _ | assumption | refine Below.drew ?_ | refine below_drewN ?_ _ | refine Below.alloc ?_ (by first | omega | (simp; done) | (simp; omega)) _ | refine Below.setCell ?_ (by first | omega | (simp; done) | (simp; omega)) _ | refine Below.trans ?_ (Below.mono (by assumption) (by first | omega | (simp; done) | (simp; omega))))), by simp; omega⟩
          case measure => simp [intOf]; omega
    · obtain rfl : k = l.length := by omega
      exfalso
      obtain ⟨i, hi, he⟩ := List.getElem_of_mem hm
      exact HNO.out i hi ((pt_get hi).trans he)

set_option maxHeartbeats 1000000 in
theorem sameS_no1 (a1 : Option Addr) (cap1 : Nat) (l1 : List (Int × Int)) (hl1 : l1.length ≤ 1048576) (hc1 : l1.length ≤ cap1) (a2 : Option Addr) (cap2 : Nat) (l2 : List (Int × Int)) (hl2 : l2.length ≤ 1048576) (hc2 : l2.length ≤ cap2) {w : World} (ha : PairsAt w a1 l1) (hb : PairsAt w a2 l2) (h1 : chOk l1 = false) :
    Calls Try.prog 39 #[.slice a1 l1.length cap1, .slice a2 l2.length cap2] w fun e w' => e = .returned (.tuple #[.bool false, .bool false]) ∧ Below w.heap.size w w' := by
  have HGA := Lib.hid (fun (W : World) (hb' : Below w.heap.size w W) => chGood_any a1 cap1 l1 hl1 hc1 (ha.below hb'))
  have HGB := Lib.hid (fun (W : World) (hb' : Below w.heap.size w W) => chGood_any a2 cap2 l2 hl2 hc2 (hb.below hb'))
  rw [h1] at HGA
  clear h1
  go_enter Try.func39, Try.ntmps39
  go_wp2_with (first | (go_at_call 45; ((with_reducible refine (HGA.out _ (by repeat (first | exact Below.refl _ _ | assumption | refine Below.drew ?_ | refine below_drewN ?_ _ | refine Below.alloc ?_ (by first | omega | (simp; done) | (simp; omega)) _ | refine Below.setCell ?_ (by first | omega | (simp; done) | (simp; omega)) _ | refine Below.trans ?_ (Below.mono (by assumption) (by first | omega | (simp; done) | (simp; omega)))))).mono ?_); rintro e w1 ⟨rfl, hb1⟩; have hs1 := hb1.size; (try simp at hs1))) | (go_at_call 45; ((with_reducible refine (HGB.out _ (by repeat (first | exact Below.refl _ _ | assumption | refine Below.drew ?_ | refine below_drewN ?_ _ | refine Below.alloc ?_ (by first | omega | (simp; done) | (simp; omega)) _ | refine Below.setCell ?_ (by first | omega | (simp; done) | (simp; omega)) _ | refine Below.trans ?_ (Below.mono (by assumption) (by first | omega | (simp; done) | (simp; omega)))))).mono ?_); rintro e w1 ⟨rfl, hb1⟩; have hs1 := hb1.size; (try simp at hs1))))
  go_ret2
  exact ⟨rfl, (by repeat (first | exact Below.refl _ _ | assumption | refine Below.drew ?_ | refine below_drewN ?_ _ | refine Below.alloc ?_ (by first | omega | (simp; done) | (simp; omega)) _ | refine Below.setCell ?_ (by first | omega | (simp; done) | (simp; omega)) _ | refine Below.trans ?_ (Below.mono (by assumption) (by first | omega | (simp; done) | (simp; omega)))))⟩

set_option maxHeartbeats 1000000 in
theorem sameS_no2 (a1 : Option Addr) (cap1 : Nat) (l1 : List (Int × Int)) (hl1 : l1.length ≤ 1048576) (hc1 : l1.length ≤ cap1) (a2 : Option Addr) (cap2 : Nat) (l2 : List (Int × Int)) (hl2 : l2.length ≤ 1048576) (hc2 : l2.length ≤ cap2) {w : World} (ha : PairsAt w a1 l1) (hb : PairsAt w a2 l2) (h1 : chOk l1 = true) (h2 : chOk l2 = false) :
    Calls Try.prog 39 #[.slice a1 l1.length cap1, .slice a2 l2.length cap2] w fun e w' => e = .returned (.tuple #[.bool false, .bool false]) ∧ Below w.heap.size w w' := by
  have HGA := Lib.hid (fun (W : World) (hb' : Below w.heap.size w W) => chGood_any a1 cap1 l1 hl1 hc1 (ha.below hb'))
  have HGB := Lib.hid (fun (W : World) (hb' : Below w.heap.size w W) => chGood_any a2 cap2 l2 hl2 hc2 (hb.below hb'))
  rw [h1] at HGA
  rw [h2] at HGB
  clear h1 h2
  go_enter Try.func39, Try.ntmps39
  go_wp2_with (first | (go_at_call 45; ((with_reducible refine (HGA.out _ (by repeat (first | exact Below.refl _ _ | assumption | refine Below.drew ?_ | refine below_drewN ?_ _ | refine Below.alloc ?_ (by first | omega | (simp; done) | (simp; omega)) _ | refine Below.setCell ?_ (by first | omega | (simp; done) | (simp; omega)) _ | refine Below.trans ?_ (Below.mono (by assumption) (by first | omega | (simp; done) | (simp; omega)))))).mono ?_); rintro e w1 ⟨rfl, hb1⟩; have hs1 := hb1.size; (try simp at hs1))) | (go_at_call 45; ((with_reducible refine (HGB.out _ (by repeat (first | exact Below.refl _ _ | assumption | refine Below.drew ?_ | refine below_drewN ?_ _ | refine Below.alloc ?_ (by first | omega | (simp; done) | (simp; omega)) _ | refine Below.setCell ?_ (by first | omega | (simp; done) | (simp; omega)) _ | refine Below.trans ?_ (Below.mono (by assumption) (by first | omega | (simp; done) | (simp; omega)))))).mono ?_); rintro e w1 ⟨rfl, hb1⟩; have hs1 := hb1.size; (try simp at hs1))))
  go_ret2
  exact ⟨rfl, (by repeat (first | exact Below.refl _ _ | assumption | refine Below.drew ?_ | refine below_drewN ?_ _ | refine Below.alloc ?_ (by first | omega | (simp; done) | (simp; omega)) _ | refine Below.setCell ?_ (by first | omega | (simp; done) | (simp; omega)) _ | refine Below.trans ?_ (Below.mono (by assumption) (by first | omega | (simp; done) | (simp; omega)))))⟩

theorem perm_sub : ∀ {l1 l2 : List (Int × Int)}, l1.Nodup → l1 ⊆ l2 → l2.length ≤ l1.length → l1.Perm l2
  | [], l2, _, _, h => by
    have : l2 = [] := List.length_eq_zero_iff.1 (by simpa using h)
    rw [this]
  | x :: r, l2, hn, hs, hl => by
    have hx : x ∈ l2 := hs List.mem_cons_self
    have hn' := List.nodup_cons.1 hn
    have ih := perm_sub (l1 := r) (l2 := l2.erase x) hn'.2 (fun y hy => (List.mem_erase_of_ne (fun e => hn'.1 (by rw [← e]; exact hy))).2 (hs (List.mem_cons_of_mem _ hy))) (by rw [List.length_erase_of_mem hx]; simp at hl; omega)
    exact (ih.cons x).trans (List.perm_cons_erase hx).symm
/-- Are all spots of the first list among those of the second one? -/
def subV (l1 l2 : List (Int × Int)) : Bool := l1.all fun p => decide (p ∈ l2)
theorem sub_perm {l1 l2 : List (Int × Int)} (h1 : l1.Nodup) (h2 : l2.Nodup) (h3 : l1.length = l2.length) : subV l1 l2 = sfV l1 l2 := by
  rw [Bool.eq_iff_iff, sfV_perm]
  unfold subV
  rw [List.all_eq_true]
  constructor
  · intro h
    have hs : l1 ⊆ l2 := fun p hp => of_decide_eq_true (h p hp)
    exact perm_sub h1 hs (by omega)
  · intro h p hp
    exact decide_eq_true ((h.mem_iff).1 hp)
set_option maxRecDepth 100000 in
set_option maxHeartbeats 2000000 in
theorem sameS_yes (a1 : Option Addr) (cap1 : Nat) (l1 : List (Int × Int)) (hl1 : l1.length ≤ 1048576) (hc1 : l1.length ≤ cap1) (a2 : Option Addr) (cap2 : Nat) (l2 : List (Int × Int)) (hl2 : l2.length ≤ 1048576) (hc2 : l2.length ≤ cap2) {w : World} (ha : PairsAt w a1 l1) (hb : PairsAt w a2 l2) (h1 : chOk l1 = true) (h2 : chOk l2 = true) (R : Bool) (hR : R = (subV l1 l2 && decide (l1.length = l2.length))) :
    Calls Try.prog 39 #[.slice a1 l1.length cap1, .slice a2 l2.length cap2] w fun e w' => e = .returned (.tuple #[.bool R, .bool true]) ∧ Below w.heap.size w w' := by
  have HGA := Lib.hid (fun (W : World) (hb' : Below w.heap.size w W) => chGood_any a1 cap1 l1 hl1 hc1 (ha.below hb'))
  have HGB := Lib.hid (fun (W : World) (hb' : Below w.heap.size w W) => chGood_any a2 cap2 l2 hl2 hc2 (hb.below hb'))
  rw [h1] at HGA
  rw [h2] at HGB
  have HA := Lib.hid ha
  have HB := Lib.hid hb
  have HFN := Lib.hid (fun (x y : Int) (hn : (x, y) ∉ l2) (W : World) (hb' : Below w.heap.size w W) => chFind_no a2 cap2 l2 hl2 x y (hb.below hb') hn)
  have HFY := Lib.hid (fun (x y : Int) (hn : (x, y) ∈ l2) (W : World) (hb' : Below w.heap.size w W) => chFind_yes a2 cap2 l2 hl2 x y (hb.below hb') hn)
  have HR := Lib.hid hR
  clear h1 h2 ha hb hR
  go_enter Try.func39, Try.ntmps39
  go_wp2_with (first | (go_at_call 45; ((with_reducible refine (HGA.out _ (by repeat (first | exact Below.refl _ _ | assumption | refine Below.drew ?_ | refine below_drewN ?_ _ | refine Below.alloc ?_ (by first | omega | (simp; done) | (simp; omega)) _ | refine Below.setCell ?_ (by first | omega | (simp; done) | (simp; omega)) _ | refine Below.trans ?_ (Below.mono (by assumption) (by first | omega | (simp; done) | (simp; omega)))))).mono ?_); rintro e w1 ⟨rfl, hb1⟩; have hs1 := hb1.size; (try simp at hs1))) | (go_at_call 45; ((with_reducible refine (HGB.out _ (by repeat (first | exact Below.refl _ _ | assumption | refine Below.drew ?_ | refine below_drewN ?_ _ | refine Below.alloc ?_ (by first | omega | (simp; done) | (simp; omega)) _ | refine Below.setCell ?_ (by first | omega | (simp; done) | (simp; omega)) _ | refine Below.trans ?_ (Below.mono (by assumption) (by first | omega | (simp; done) | (simp; omega)))))).mono ?_); rintro e w1 ⟨rfl, hb1⟩; have hs1 := hb1.size; (try simp at hs1))))
  have hbw : Below w.heap.size w w1 := (by repeat (first | exact Below.refl _ _ | assumption | refine Below.drew ?_ | refine below_drewN ?_ _ | refine Below.alloc ?_ (by first | omega | (simp; done) | (simp; omega)) _ | refine Below.setCell ?_ (by first | omega | (simp; done) | (simp; omega)) _ | refine Below.trans ?_ (Below.mono (by assumption) (by first | omega | (simp; done) | (simp; omega)))))
  repeat clear hb1
  go_loopw [18] (fun i wr => ∃ k : Nat, k ≤ l1.length ∧ i = .int .i64 (k : Int) ∧ Hid (∀ j, j < k → pt l1 j ∈ l2) ∧ Below w.heap.size w wr) (fun i _ => l1.length - (intOf i).toNat)
  case atStart => exact ⟨0, Nat.zero_le _, rfl, Lib.hid (fun j h => absurd h (Nat.not_lt_zero j)), hbw⟩
  case round =>
    clear hbw
    obtain ⟨k, hk, rfl, HIN, hbr⟩ := hrel
    have hsr := hbr.size
    by_cases hlt : k < l1.length
    · obtain ⟨b, off, rfl, e0, e1⟩ := (HA.out.below hbr) k hlt
      by_cases hm : pt l1 k ∈ l2
      · have HIN2 := Lib.hid (ext_lt (p := fun j => pt l1 j ∈ l2) HIN.out hm)
        have HF := Lib.hid (HFY.out (sx l1 k) (sy l1 k) hm)
        clear hm HIN
        go_wp2_with (go_at_call 67; ((with_reducible refine (HF.out _ (by repeat (first | exact Below.refl _ _ | assumption | refine Below.drew ?_ | refine below_drewN ?_ _ | refine Below.alloc ?_ (by first | omega | (simp; done) | (simp; omega)) _ | refine Below.setCell ?_ (by first | omega | (simp; done) | (simp; omega)) _ | refine Below.trans ?_ (Below.mono (by assumption) (by first | omega | (simp; done) | (simp; omega)))))).mono ?_); rintro e w3 ⟨⟨r, rfl⟩, hb3⟩; have hs3 := hb3.size; (try simp at hs3); have hr0 : ¬ ((r : Nat) : Int) < 0 := by omega))
        go_roundw
        case rel => exact ⟨k + 1, by omega, by go_num, HIN2, (by repeat (first | exact Below.refl _ _ | assumption | refine Below.drew ?_ | refine below_drewN ?_ _ | refine Below.alloc ?_ (by first | omega | (simp; done) | (simp; omega)) _ | refine Below.setCell ?_ (by first | omega | (simp; done) | (simp; omega)) _ | refine Below.trans ?_ (Below.mono (by assumption) (by first | omega | (simp; done) | (simp; omega)))))⟩
        case measure => simp [intOf]; omega
      · have HF := Lib.hid (HFN.out (sx l1 k) (sy l1 k) hm)
        have E0 : Hid (R = false) := Lib.hid (by
          rw [HR.out, Bool.and_eq_false_iff]
          refine .inl ?_
          unfold subV
          rw [List.all_eq_false]
          exact ⟨pt l1 k, by rw [pt_get hlt]; exact List.getElem_mem hlt, by simpa using hm⟩)
        clear hm HIN
        go_wp2_with (go_at_call 67; ((with_reducible refine (HF.out _ (by repeat (first | exact Below.refl _ _ | assumption | refine Below.drew ?_ | refine below_drewN ?_ _ | refine Below.alloc ?_ (by first | omega | (simp; done) | (simp; omega)) _ | refine Below.setCell ?_ (by first | omega | (simp; done) | (simp; omega)) _ | refine Below.trans ?_ (Below.mono (by assumption) (by first | omega | (simp; done) | (simp; omega)))))).mono ?_); rintro e w3 ⟨rfl, hb3⟩; have hs3 := hb3.size; (try simp at hs3)))
        go_ret2
        exact ⟨by rw [E0.out]; rfl, (by repeat (first | exact Below.refl _ _ | assumption | refine Below.drew ?_ | refine below_drewN ?_ _ | refine Below.alloc ?_ (by first | omega | (simp; done) | (simp; omega)) _ | refine Below.setCell ?_ (by first | omega | (simp; done) | (simp; omega)) _ | refine Below.trans ?_ (Below.mono (by assumption) (by first | omega | (simp; done) | (simp; omega)))))⟩
    · obtain rfl : k = l1.length := by omega
      have E0 : Hid (R = decide (l1.length = l2.length)) := Lib.hid (by
        rw [HR.out]
        have : subV l1 l2 = true := by
          unfold subV
          rw [List.all_eq_true]
          intro p hp
          obtain ⟨i, hi, rfl⟩ := List.getElem_of_mem hp
          exact decide_eq_true (by rw [← pt_get hi]; exact HIN.out i hi)
        rw [this, Bool.true_and])
      by_cases h3 : l1.length = l2.length
      · have u1 : ((l1.length : Int) == (l2.length : Int)) = true := by rw [h3]; simp
        have E1 : Hid (R = true) := Lib.hid (by rw [E0.out, decide_eq_true h3])
        clear h3 HR E0
        go_wp2
        go_ret2
        exact ⟨by rw [E1.out]; rfl, (by repeat (first | exact Below.refl _ _ | assumption | refine Below.drew ?_ | refine below_drewN ?_ _ | refine Below.alloc ?_ (by first | omega | (simp; done) | (simp; omega)) _ | refine Below.setCell ?_ (by first | omega | (simp; done) | (simp; omega)) _ | refine Below.trans ?_ (Below.mono (by assumption) (by first | omega | (simp; done) | (simp; omega)))))⟩
      · have h4 : ¬ (l1.length : Int) = (l2.length : Int) := fun e => h3 (Int.ofNat.inj e)
        have u1 : ((l1.length : Int) == (l2.length : Int)) = false := by simpa using h4
        have E1 : Hid (R = false) := Lib.hid (by rw [E0.out, decide_eq_false h3])
        clear h3 h4 HR E0
        go_wp2
        go_ret2
        exact ⟨by rw [E1.out]; rfl, (by repeat (first | exact Below.refl _ _ | assumption | refine Below.drew ?_ | refine below_drewN ?_ _ | refine Below.alloc ?_ (by first | omega | (simp; done) | (simp; omega)) _ | refine Below.setCell ?_ (by first | omega | (simp; done) | (simp; omega)) _ | refine Below.trans ?_ (Below.mono (by assumption) (by first | omega | (simp; done) | (simp; omega)))))⟩
theorem sameS_any (a1 : Option Addr) (cap1 : Nat) (l1 : List (Int × Int)) (hl1 : l1.length ≤ 1048576) (hc1 : l1.length ≤ cap1) (a2 : Option Addr) (cap2 : Nat) (l2 : List (Int × Int)) (hl2 : l2.length ≤ 1048576) (hc2 : l2.length ≤ cap2) {w : World} (ha : PairsAt w a1 l1) (hb : PairsAt w a2 l2) :
    Calls Try.prog 39 #[.slice a1 l1.length cap1, .slice a2 l2.length cap2] w fun e w' => e = .returned (.tuple #[.bool (sfB l1 l2), .bool (sfO l1 l2)]) ∧ Below w.heap.size w w' := by
  unfold sfB sfO
  cases h1 : chOk l1
  · exact sameS_no1 a1 cap1 l1 hl1 hc1 a2 cap2 l2 hl2 hc2 ha hb h1
  · cases h2 : chOk l2
    · exact sameS_no2 a1 cap1 l1 hl1 hc1 a2 cap2 l2 hl2 hc2 ha hb h1 h2
    · refine sameS_yes a1 cap1 l1 hl1 hc1 a2 cap2 l2 hl2 hc2 ha hb h1 h2 _ ?_
      have n1 : l1.Nodup := by have := (chOk_parts h1).2.1; unfold diffP at this; exact of_decide_eq_true this
      have n2 : l2.Nodup := by have := (chOk_parts h2).2.1; unfold diffP at this; exact of_decide_eq_true this
      by_cases h3 : l1.length = l2.length
      · rw [decide_eq_true h3, sub_perm n1 n2 h3]; simp
      · rw [decide_eq_false h3, sfV_len h3]; simp

end Go.Proofs.Ytfimjfchdaioeaa
