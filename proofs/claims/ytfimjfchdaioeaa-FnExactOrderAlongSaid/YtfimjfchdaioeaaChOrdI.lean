/- The order of a chart's performers, the program's side. No conditions but those written in each theorem. -/
import Derived.Test.YtfimjfchdaioeaaChSF
import Derived.Deep.RegionHeld3
import Derived.Deep.DrawnRows
import Derived.IntWalk
import Derived.StillTailTactics
import Derived.Deep.DeepCutAuto
import Derived.Deep.OwnRows
import Derived.Deep.MidRow
import Derived.Laws.Rows
import Derived.Lib.LazyBuf
import Derived.Laws.AppendOwn
import Derived.Lib.QuietBelow
namespace Go.Proofs.Ytfimjfchdaioeaa
open Go.RowKit
open Go.Sort (grow)


attribute [local go_sem ↓] Go.wp_at_zero Go.wp_at_succ

/-- The performers in their order. -/
def ordL (l : List (Int × Int)) : List Int := if chOk l then ints (ordN l) else []
theorem ordL_length (l : List (Int × Int)) : (ordL l).length ≤ l.length := by
  unfold ordL
  split
  · rw [ints_length, (ordN_perm l).length_eq, List.length_range]; exact Nat.le_refl _
  · simp
theorem ints_step (k : Nat) : ints (List.range (k + 1)) = ints (List.range k) ++ [(k : Int)] := by
  unfold ints
  rw [List.range_succ, List.map_append]
  rfl

set_option maxHeartbeats 1000000 in
theorem ordI_no (a : Option Addr) (cap : Nat) (l : List (Int × Int)) (hl : l.length ≤ 1048576) {w : World} (ha : PairsAt w a l) (hv : chOk l = false) :
    Calls Try.prog 42 #[.slice a l.length cap] w fun e w' => e = .returned (.tuple #[.slice none 0 0, .bool false]) ∧ Below w.heap.size w w' := by
  have HG := Lib.hid (fun (W : World) (hb : Below w.heap.size w W) => isChart_any a cap l hl (ha.below hb))
  rw [hv] at HG
  clear hv
  go_enter Try.func42, Try.ntmps42
  go_wp2_with (go_at_call 17; ((with_reducible refine (HG.out _ (by repeat (first | exact Below.refl _ _ | assumption | refine Below.drew ?_ | refine below_drewN ?_ _ | refine Below.alloc ?_ (by first | omega | (simp; done) | (simp; omega)) _ | refine Below.setCell ?_ (by first | omega | (simp; done) | (simp; omega)) _ | refine Below.trans ?_ (Below.mono (by assumption) (by first | omega | (simp; done) | (simp; omega)))))).mono ?_); rintro e w1 ⟨rfl, hb1⟩; have hs1 := hb1.size; (try simp at hs1)))
  go_ret2
  exact ⟨rfl, (by repeat (first | exact Below.refl _ _ | assumption | refine Below.drew ?_ | refine below_drewN ?_ _ | refine Below.alloc ?_ (by first | omega | (simp; done) | (simp; omega)) _ | refine Below.setCell ?_ (by first | omega | (simp; done) | (simp; omega)) _ | refine Below.trans ?_ (Below.mono (by assumption) (by first | omega | (simp; done) | (simp; omega)))))⟩
set_option maxRecDepth 100000 in
set_option maxHeartbeats 2000000 in
theorem ordI_yes (a : Option Addr) (cap : Nat) (l : List (Int × Int)) (hl : l.length ≤ 1048576) {w : World} (ha : PairsAt w a l) (hv : chOk l = true) :
    Calls Try.prog 42 #[.slice a l.length cap] w fun e w' => ∃ v, e = .returned (.tuple #[v, .bool true]) ∧ OwnInts w' w.heap.size v (ints (ordN l)) ∧ Below w.heap.size w w' := by
  obtain ⟨j0, hi, hz0, hz1, hz2⟩ := info_parts Try.infoInt
  have HI := Lib.hid hi
  have HZ0 := Lib.hid hz0
  have HZ1 := Lib.hid hz1
  have HZ2 := Lib.hid hz2
  clear hi hz0 hz1 hz2
  have HG := Lib.hid (fun (W : World) (hb : Below w.heap.size w W) => isChart_any a cap l hl (ha.below hb))
  rw [hv] at HG
  obtain ⟨k1, k2, k3, h12⟩ := chOk_parts hv
  have HPA := Lib.hid (fun (W : World) (hb : Below w.heap.size w W) => placesOf_any a cap l h12 (ha.below hb))
  have hnd : l.Nodup := by unfold diffP at k2; exact of_decide_eq_true k2
  have HND := Lib.hid hnd
  have HA := Lib.hid ha
  clear hv ha k1 k2 hnd
  go_enter Try.func42, Try.ntmps42
  go_upto_region 3 with (go_at_call 17; ((with_reducible refine (HG.out _ (by repeat (first | exact Below.refl _ _ | assumption | refine Below.drew ?_ | refine below_drewN ?_ _ | refine Below.alloc ?_ (by first | omega | (simp; done) | (simp; omega)) _ | refine Below.setCell ?_ (by first | omega | (simp; done) | (simp; omega)) _ | refine Below.trans ?_ (Below.mono (by assumption) (by first | omega | (simp; done) | (simp; omega)))))).mono ?_); rintro e w1 ⟨rfl, hb1⟩; have hs1 := hb1.size; (try simp at hs1)))
  go_upto_region 4 with (first | (refine arr_store rfl (.tmp 4) (.tmp 11) rfl wa.heap.size rfl zA (plA l) rfl (arr_new wa zA) rfl (plA_arr l) ?_; intro W3 hA3 hg3) | (go_at_call 66; ((with_reducible refine (HPA.out _ (by repeat (first | exact Below.refl _ _ | assumption | refine Below.drew ?_ | refine below_drewN ?_ _ | refine Below.alloc ?_ (by first | omega | (simp; done) | (simp; omega)) _ | refine Below.setCell ?_ (by first | omega | (simp; done) | (simp; omega)) _ | refine Below.trans ?_ (Below.mono (by assumption) (by first | omega | (simp; done) | (simp; omega)))))).mono ?_); rintro e wa ⟨rfl, hba⟩; have hsa := hba.size; (try simp at hsa))))
  have hwa : w.heap.size ≤ wa.heap.size := (by first | omega | (simp; done) | (simp; omega))
  have hB3 : Below w.heap.size w W3 := gb_below ((by repeat (first | exact Below.refl _ _ | assumption | refine Below.drew ?_ | refine below_drewN ?_ _ | refine Below.alloc ?_ (by first | omega | (simp; done) | (simp; omega)) _ | refine Below.setCell ?_ (by first | omega | (simp; done) | (simp; omega)) _ | refine Below.trans ?_ (Below.mono (by assumption) (by first | omega | (simp; done) | (simp; omega))))) : Below w.heap.size w (wa.alloc (.cells zA 72))) hg3 hwa
  have hP3 : wa.heap.size < W3.heap.size := hA3.lt
  obtain ⟨P, hP⟩ : ∃ z, z = wa.heap.size := ⟨_, rfl⟩
  rw [← hP] at hA3 hP3 hwa
  have HA3 := Lib.hid hA3
  clear hba hg3 hA3 HPA HG
  rw [← hP]
  clear hP
  go_wp2
  go_loopw [5, 14] (fun ov i wr => ∃ (k : Nat) (vo : Value), k ≤ l.length ∧ i = .int .i64 k ∧ ov = vo ∧ Hid (OwnInts wr W3.heap.size vo (ints (List.range k))) ∧ Hid (ArrAt wr P (plA l)) ∧ Below w.heap.size w wr ∧ W3.heap.size ≤ wr.heap.size) (fun _ i _ => l.length - (intOf i).toNat)
  case atStart => exact ⟨0, _, Nat.zero_le _, rfl, rfl, Lib.hid (World.ownsRow_nil _ _ _ _), HA3, hB3, Nat.le_refl _⟩
  case round =>
    clear hB3 HA3
    obtain ⟨k, vo, hk, rfl, hvo, HOWN, HAA, hbr, hwr⟩ := hrel
    replace hvo := hvo.symm
    subst hvo
    have hsr := hbr.size
    obtain ⟨wo, rfl⟩ : ∃ wo, wo = wr := ⟨_, rfl⟩
    by_cases hlt : k < l.length
    · have hlen : (ints (List.range k)).length ≤ 12 := by rw [ints_length, List.length_range]; omega
      have Hnb := Lib.hid (ints_step k)
      go_wp2_with (at_builtin; refine wpList_append_own _ rfl _ _ 44 rfl (W3.heap.size) 3 j0 (.int .i64 0) 1 8 Try.underlying44 HI.out HZ0.out HZ1.out HZ2.out rfl (by decide) _ _ _ rfl (HOWN.out.alloc _) ⟨wo.heap.size, 0, none⟩ 1 1 [.int .i64 (k : Int)] rfl rfl ?c1 ?c2 ?c3 ?c4 ?c5 ?_)
      case c1 =>
        intro j u hj
        match j, hj with
        | 0, hj => simp at hj; subst hj; simp [Addr.add]
      case c2 => intro u hu; simp at hu; subst hu; rfl
      case c3 => unfold maxLen; omega
      case c4 => omega
      case c5 => simp; omega
      intro v' w2 hown' hgrow _
      have hne : some P ≠ vo.ownBlock := fun e => by have := World.ownsRow.lt HOWN.out P e.symm; omega
      have hst := own_stepI (w := w) (base := w.heap.size) hbr hwr (by omega) HOWN.out hown' hgrow
      rw [← Hnb.out] at hst
      have HST := Lib.hid hst.1
      have hb2 := hst.2.1
      have hz9 := hst.2.2.2
      have HA2 := Lib.hid (((HAA.out.below ((Below.refl _ wo).alloc (Nat.le_refl _) _))).other hgrow hne)
      clear hst hown' hgrow hne
      go_wp2
      go_roundw
      case rel => exact ⟨k + 1, _, by omega, by go_num, rfl, HST, HA2, hb2, by omega⟩
      case measure => simp [intOf]; omega
    · obtain rfl : k = l.length := by omega
      rcases own_formI HOWN.out with ⟨rfl, e0⟩ | ⟨g, cap', rfl, hgb, hgl⟩
      · exfalso
        have := congrArg List.length e0
        rw [ints_length, List.length_range] at this
        simp only [List.length_nil] at this
        omega
      have hon : OwnN wo W3.heap.size g cap' l.length (List.range l.length) := by
        have h := HOWN.out
        unfold OwnInts at h
        rw [ints_length, List.length_range] at h
        exact h
      have HS := Lib.hid (sortI_sort l h12 P g cap' W3.heap.size (List.range l.length) (List.Perm.refl _) HAA.out hP3 hon hgb hwr k3)
      have e9 : (ints (List.range l.length)).length = l.length := by rw [ints_length, List.length_range]
      rw [e9]
      have HE : Hid (∀ d : List Nat, d.Perm (List.range l.length) → d.Pairwise (fun x y => ¬ ltP (pt l y) (pt l x)) → d = ordN l) := Lib.hid (fun d h1 h2 => ord_unique HND.out h1 h2)
      have hOL : (ints (ordN l)).length = l.length := by rw [ints_length, (ordN_perm l).length_eq, List.length_range]
      have HOL := Lib.hid hOL
      have HWR := Lib.hid (show w.heap.size ≤ W3.heap.size by omega)
      clear e9 hon HOWN HAA hOL
      go_wp2_with (go_at_call 70; ((with_reducible refine HS.out.mono ?_); rintro e w5 ⟨rfl, ⟨d, hd1, hd2, hd3⟩, hb5⟩))
      obtain rfl := HE.out d hd1 hd2
      have hown5 : OwnInts w5 w.heap.size (.slice (some ⟨g, 0, none⟩) l.length cap') (ints (ordN l)) := by
        unfold OwnInts
        rw [HOL.out]
        exact own_mono hd3 HWR.out
      have hb6 : Below w.heap.size w w5 := hbr.trans (hb5.mono HWR.out)
      go_ret2
      exact ⟨_, rfl, hown5, hb6⟩
theorem ordI_any (a : Option Addr) (cap : Nat) (l : List (Int × Int)) (hl : l.length ≤ 1048576) {w : World} (ha : PairsAt w a l) :
    Calls Try.prog 42 #[.slice a l.length cap] w fun e w' => ∃ v, e = .returned (.tuple #[v, .bool (chOk l)]) ∧ OwnInts w' w.heap.size v (ordL l) ∧ Below w.heap.size w w' := by
  cases hv : chOk l
  · have e2 : ordL l = [] := by unfold ordL; rw [if_neg (by rw [hv]; simp)]
    rw [e2]
    exact (ordI_no a cap l hl ha hv).mono fun e w' ⟨he, hb⟩ => ⟨_, he, World.ownsRow_nil _ _ _ _, hb⟩
  · have e2 : ordL l = ints (ordN l) := by unfold ordL; rw [if_pos hv]
    rw [e2]
    exact ordI_yes a cap l hl ha hv

end Go.Proofs.Ytfimjfchdaioeaa
