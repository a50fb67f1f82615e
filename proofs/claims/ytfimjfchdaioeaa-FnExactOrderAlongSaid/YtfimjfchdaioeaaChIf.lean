/- Charts, both sides: whole lists, copies. No conditions but those written in each theorem. -/
import Derived.Test.YtfimjfchdaioeaaChGood
import Derived.Test.YtfimjfchdaioeaaToSpot
import Derived.Deep.RegionHeld3
import Derived.Deep.DrawnRows
import Derived.IntWalk
import Derived.Laws.AppendOwn
import Derived.Lib.SliceRun
namespace Go.Proofs.Ytfimjfchdaioeaa
open Go.RowKit


attribute [local go_sem ↓] Go.wp_at_zero Go.wp_at_succ

theorem own_viewC {ty : TypeId} {w : World} {base : Nat} {v : Value} {l : List (Int × Int)} (h : OwnPairs ty w base v l) :
    ∃ (a : Option Addr) (cap : Nat), v = .slice a l.length cap ∧ PairsAt w a l ∧ l.length ≤ cap := by
  obtain ⟨a, cap, rfl, hp, _⟩ := own_viewP h
  refine ⟨a, cap, rfl, hp, ?_⟩
  rcases h.2 with ⟨e, h0⟩ | ⟨g, cap', cur, e, _, _, hn, _⟩
  · rw [h0]; exact Nat.zero_le _
  · cases e; exact hn

theorem okList_small {l : List (Int × Int)} (h : inB 1 (l.length : Int) 12 = true) : okList l = allOn l := by
  have := inB_iff.1 h
  unfold okList
  rw [decide_eq_true (by omega), Bool.and_true]
set_option maxHeartbeats 1000000 in
theorem isChart_any (a : Option Addr) (cap : Nat) (l : List (Int × Int)) (hl : l.length ≤ 1048576) {w : World} (ha : PairsAt w a l) :
    Calls Try.prog 17 #[.slice a l.length cap] w fun e w' => e = .returned (.bool (chOk l)) ∧ Below w.heap.size w w' := by
  have HS := Lib.hid (fun (W : World) (hb : Below w.heap.size w W) => areSpots_any a cap l hl (ha.below hb))
  cases h1 : inB 1 (l.length : Int) 12
  · have E0 := Lib.hid (chOk_len h1)
    have HP := Lib.hid h1
    clear h1
    go_enter Try.func17, Try.ntmps17
    go_wp2_with (first | (go_at_call 46; (refine (isPerformers_any _ _).mono ?_; rintro e w' ⟨rfl, rfl⟩; rw [HP.out]; clear HP)))
    go_ret
    exact ⟨by rw [E0.out]; rfl, (by repeat (first | exact Below.refl _ _ | assumption | refine Below.drew ?_ | refine below_drewN ?_ _ | refine Below.alloc ?_ (by first | omega | (simp; done) | (simp; omega)) _ | refine Below.setCell ?_ (by first | omega | (simp; done) | (simp; omega)) _ | refine Below.trans ?_ (Below.mono (by assumption) (by first | omega | (simp; done) | (simp; omega)))))⟩
  · have hok := okList_small h1
    have hlen := inB_iff.1 h1
    cases h2 : allOn l
    · rw [h2] at hok
      have E0 := Lib.hid (chOk_on h2)
      have HP := Lib.hid h1
      have HO := Lib.hid hok
      clear h1 h2 hok
      go_enter Try.func17, Try.ntmps17
      go_wp2_with (first | (go_at_call 46; (refine (isPerformers_any _ _).mono ?_; rintro e w' ⟨rfl, rfl⟩; rw [HP.out]; clear HP)) | (go_at_call 47; (refine (HS.out _ (by repeat (first | exact Below.refl _ _ | assumption | refine Below.drew ?_ | refine below_drewN ?_ _ | refine Below.alloc ?_ (by first | omega | (simp; done) | (simp; omega)) _ | refine Below.setCell ?_ (by first | omega | (simp; done) | (simp; omega)) _ | refine Below.trans ?_ (Below.mono (by assumption) (by first | omega | (simp; done) | (simp; omega)))))).mono ?_; rw [HO.out]; rintro e w1 ⟨rfl, hb1⟩; have hs1 := hb1.size)))
      go_ret
      exact ⟨by rw [E0.out]; rfl, (by repeat (first | exact Below.refl _ _ | assumption | refine Below.drew ?_ | refine below_drewN ?_ _ | refine Below.alloc ?_ (by first | omega | (simp; done) | (simp; omega)) _ | refine Below.setCell ?_ (by first | omega | (simp; done) | (simp; omega)) _ | refine Below.trans ?_ (Below.mono (by assumption) (by first | omega | (simp; done) | (simp; omega)))))⟩
    · rw [h2] at hok
      have HD := Lib.hid (fun (W : World) (hb : Below w.heap.size w W) => allDiffer_any a cap l (by omega) h2 (ha.below hb))
      have E0 := Lib.hid (show chOk l = diffP l by unfold chOk; rw [h1, h2, Bool.and_true]; rfl)
      have HP := Lib.hid h1
      have HO := Lib.hid hok
      clear h1 h2 hok
      go_enter Try.func17, Try.ntmps17
      go_wp2_with (first | (go_at_call 46; (refine (isPerformers_any _ _).mono ?_; rintro e w' ⟨rfl, rfl⟩; rw [HP.out]; clear HP)) | (go_at_call 47; (refine (HS.out _ (by repeat (first | exact Below.refl _ _ | assumption | refine Below.drew ?_ | refine below_drewN ?_ _ | refine Below.alloc ?_ (by first | omega | (simp; done) | (simp; omega)) _ | refine Below.setCell ?_ (by first | omega | (simp; done) | (simp; omega)) _ | refine Below.trans ?_ (Below.mono (by assumption) (by first | omega | (simp; done) | (simp; omega)))))).mono ?_; rw [HO.out]; rintro e w1 ⟨rfl, hb1⟩; have hs1 := hb1.size)) | (go_at_call 48; (refine (HD.out _ (by repeat (first | exact Below.refl _ _ | assumption | refine Below.drew ?_ | refine below_drewN ?_ _ | refine Below.alloc ?_ (by first | omega | (simp; done) | (simp; omega)) _ | refine Below.setCell ?_ (by first | omega | (simp; done) | (simp; omega)) _ | refine Below.trans ?_ (Below.mono (by assumption) (by first | omega | (simp; done) | (simp; omega)))))).mono ?_; rintro e w2 ⟨rfl, hb2⟩; have hs2 := hb2.size)))
      go_ret
      exact ⟨by rw [E0.out]; rfl, (by repeat (first | exact Below.refl _ _ | assumption | refine Below.drew ?_ | refine below_drewN ?_ _ | refine Below.alloc ?_ (by first | omega | (simp; done) | (simp; omega)) _ | refine Below.setCell ?_ (by first | omega | (simp; done) | (simp; omega)) _ | refine Below.trans ?_ (Below.mono (by assumption) (by first | omega | (simp; done) | (simp; omega)))))⟩

set_option maxHeartbeats 1000000 in
theorem chIfS_no (a : Option Addr) (cap : Nat) (l : List (Int × Int)) (hl : l.length ≤ 1048576) (hc : l.length ≤ cap) {w : World} (ha : PairsAt w a l) (hv : chOk l = false) :
    Calls Try.prog 55 #[.slice a l.length cap] w fun e w' => e = .returned (.tuple #[.slice none 0 0, .bool false]) ∧ Below w.heap.size w w' := by
  have HS := Lib.hid (fun (W : World) (hb : Below w.heap.size w W) => chGood_any a cap l hl hc (ha.below hb))
  have HV := Lib.hid hv
  clear hv
  go_enter Try.func55, Try.ntmps55
  go_wp2_with (first | (go_at_call 45; (refine (HS.out _ (by repeat (first | exact Below.refl _ _ | assumption | refine Below.drew ?_ | refine below_drewN ?_ _ | refine Below.alloc ?_ (by first | omega | (simp; done) | (simp; omega)) _ | refine Below.setCell ?_ (by first | omega | (simp; done) | (simp; omega)) _ | refine Below.trans ?_ (Below.mono (by assumption) (by first | omega | (simp; done) | (simp; omega)))))).mono ?_; rw [HV.out]; rintro e w1 ⟨rfl, hb1⟩; have hs1 := hb1.size)))
  go_ret2
  exact ⟨rfl, (by repeat (first | exact Below.refl _ _ | assumption | refine Below.drew ?_ | refine below_drewN ?_ _ | refine Below.alloc ?_ (by first | omega | (simp; done) | (simp; omega)) _ | refine Below.setCell ?_ (by first | omega | (simp; done) | (simp; omega)) _ | refine Below.trans ?_ (Below.mono (by assumption) (by first | omega | (simp; done) | (simp; omega)))))⟩

set_option maxHeartbeats 1000000 in
theorem chIfS_yes (a : Option Addr) (cap : Nat) (l : List (Int × Int)) (hl : l.length ≤ 1048576) (hc : l.length ≤ cap) {w : World} (ha : PairsAt w a l) (hv : chOk l = true) :
    Calls Try.prog 55 #[.slice a l.length cap] w fun e w' => e = .returned (.tuple #[.slice a l.length cap, .bool true]) ∧ Below w.heap.size w w' := by
  have HS := Lib.hid (fun (W : World) (hb : Below w.heap.size w W) => chGood_any a cap l hl hc (ha.below hb))
  have HV := Lib.hid hv
  clear hv
  go_enter Try.func55, Try.ntmps55
  go_wp2_with (first | (go_at_call 45; (refine (HS.out _ (by repeat (first | exact Below.refl _ _ | assumption | refine Below.drew ?_ | refine below_drewN ?_ _ | refine Below.alloc ?_ (by first | omega | (simp; done) | (simp; omega)) _ | refine Below.setCell ?_ (by first | omega | (simp; done) | (simp; omega)) _ | refine Below.trans ?_ (Below.mono (by assumption) (by first | omega | (simp; done) | (simp; omega)))))).mono ?_; rw [HV.out]; rintro e w1 ⟨rfl, hb1⟩; have hs1 := hb1.size)))
  go_ret2
  exact ⟨rfl, (by repeat (first | exact Below.refl _ _ | assumption | refine Below.drew ?_ | refine below_drewN ?_ _ | refine Below.alloc ?_ (by first | omega | (simp; done) | (simp; omega)) _ | refine Below.setCell ?_ (by first | omega | (simp; done) | (simp; omega)) _ | refine Below.trans ?_ (Below.mono (by assumption) (by first | omega | (simp; done) | (simp; omega)))))⟩

theorem chIfS {w : World} {base : Nat} {v : Value} {l : List (Int × Int)} (hl : l.length ≤ 1048576) (ho : OwnPairs 41 w base v l) :
    Calls Try.prog 55 #[v] w fun e w' => ∃ v', e = .returned (.tuple #[v', .bool (chOk l)]) ∧ OwnPairs 41 w' base v' (chIf l) ∧ Below w.heap.size w w' := by
  obtain ⟨a, cap, rfl, ha, hc⟩ := own_viewC ho
  cases hv : chOk l
  · rw [chIf_no hv]
    exact (chIfS_no a cap l hl hc ha hv).mono fun e w' ⟨he, hb⟩ => ⟨_, he, own_nil _ _ _, hb⟩
  · rw [chIf_yes hv]
    exact (chIfS_yes a cap l hl hc ha hv).mono fun e w' ⟨he, hb⟩ => ⟨_, he, own_below ho hb, hb⟩

set_option maxHeartbeats 1000000 in
theorem formOf_no (a : Option Addr) (cap : Nat) (l : List (Int × Int)) (hl : l.length ≤ 1048576) {w : World} (ha : PairsAt w a l) (hv : chOk l = false) :
    Calls Try.prog 64 #[.slice a l.length cap] w fun e w' => e = .returned (.tuple #[.slice none 0 0, .bool false]) ∧ Below w.heap.size w w' := by
  have HS := Lib.hid (fun (W : World) (hb : Below w.heap.size w W) => isChart_any a cap l hl (ha.below hb))
  have HV := Lib.hid hv
  clear hv
  go_enter Try.func64, Try.ntmps64
  go_wp2_with (first | (go_at_call 17; (refine (HS.out _ (by repeat (first | exact Below.refl _ _ | assumption | refine Below.drew ?_ | refine below_drewN ?_ _ | refine Below.alloc ?_ (by first | omega | (simp; done) | (simp; omega)) _ | refine Below.setCell ?_ (by first | omega | (simp; done) | (simp; omega)) _ | refine Below.trans ?_ (Below.mono (by assumption) (by first | omega | (simp; done) | (simp; omega)))))).mono ?_; rw [HV.out]; rintro e w1 ⟨rfl, hb1⟩; have hs1 := hb1.size)))
  go_ret2
  exact ⟨rfl, (by repeat (first | exact Below.refl _ _ | assumption | refine Below.drew ?_ | refine below_drewN ?_ _ | refine Below.alloc ?_ (by first | omega | (simp; done) | (simp; omega)) _ | refine Below.setCell ?_ (by first | omega | (simp; done) | (simp; omega)) _ | refine Below.trans ?_ (Below.mono (by assumption) (by first | omega | (simp; done) | (simp; omega)))))⟩

set_option maxHeartbeats 1000000 in
theorem formOf_yes (a : Option Addr) (cap : Nat) (l : List (Int × Int)) (hl : l.length ≤ 1048576) {w : World} (ha : PairsAt w a l) (hv : chOk l = true) :
    Calls Try.prog 64 #[.slice a l.length cap] w fun e w' => e = .returned (.tuple #[.slice a l.length cap, .bool true]) ∧ Below w.heap.size w w' := by
  have HS := Lib.hid (fun (W : World) (hb : Below w.heap.size w W) => isChart_any a cap l hl (ha.below hb))
  have HV := Lib.hid hv
  clear hv
  go_enter Try.func64, Try.ntmps64
  go_wp2_with (first | (go_at_call 17; (refine (HS.out _ (by repeat (first | exact Below.refl _ _ | assumption | refine Below.drew ?_ | refine below_drewN ?_ _ | refine Below.alloc ?_ (by first | omega | (simp; done) | (simp; omega)) _ | refine Below.setCell ?_ (by first | omega | (simp; done) | (simp; omega)) _ | refine Below.trans ?_ (Below.mono (by assumption) (by first | omega | (simp; done) | (simp; omega)))))).mono ?_; rw [HV.out]; rintro e w1 ⟨rfl, hb1⟩; have hs1 := hb1.size)))
  go_ret2
  exact ⟨rfl, (by repeat (first | exact Below.refl _ _ | assumption | refine Below.drew ?_ | refine below_drewN ?_ _ | refine Below.alloc ?_ (by first | omega | (simp; done) | (simp; omega)) _ | refine Below.setCell ?_ (by first | omega | (simp; done) | (simp; omega)) _ | refine Below.trans ?_ (Below.mono (by assumption) (by first | omega | (simp; done) | (simp; omega)))))⟩

theorem formOf {w : World} {base : Nat} {v : Value} {l : List (Int × Int)} (hl : l.length ≤ 1048576) (ho : OwnPairs 41 w base v l) :
    Calls Try.prog 64 #[v] w fun e w' => ∃ v', e = .returned (.tuple #[v', .bool (chOk l)]) ∧ OwnPairs 41 w' base v' (chIf l) ∧ Below w.heap.size w w' := by
  obtain ⟨a, cap, rfl, ha, hc⟩ := own_viewC ho
  cases hv : chOk l
  · rw [chIf_no hv]
    exact (formOf_no a cap l hl ha hv).mono fun e w' ⟨he, hb⟩ => ⟨_, he, own_nil _ _ _, hb⟩
  · rw [chIf_yes hv]
    exact (formOf_yes a cap l hl ha hv).mono fun e w' ⟨he, hb⟩ => ⟨_, he, own_below ho hb, hb⟩

set_option maxHeartbeats 1000000 in
theorem chOwn_any (a : Option Addr) (cap : Nat) (l : List (Int × Int)) (h1 : 1 ≤ l.length) (hl : l.length ≤ 1048576) {w : World} (ha : PairsAt w a l) :
    Calls Try.prog 54 #[.slice a l.length cap] w fun e w' => ∃ v, e = .returned v ∧ OwnPairs 41 w' w.heap.size v l ∧ Below w.heap.size w w' := by
  obtain ⟨b, off, rfl⟩ := ha.some_of h1
  obtain ⟨j0, hi, hz0, hz1, hz2⟩ := info_parts Try.infoSpot
  have HI := Lib.hid hi
  have HZ0 := Lib.hid hz0
  have HZ1 := Lib.hid hz1
  have HZ2 := Lib.hid hz2
  clear hi hz0 hz1 hz2
  have HA := Lib.hid ha
  clear ha
  go_enter Try.func54, Try.ntmps54
  go_wp2_with (at_builtin; refine wpList_append_own _ rfl _ _ 25 rfl (w.heap.size) 41 j0 (.agg #[.int .i64 0, .int .i64 0]) 2 16 Try.underlying25 HI.out HZ0.out HZ1.out HZ2.out rfl (by decide) _ _ _ rfl (World.ownsRow_made w #[] 0 (Nat.le_refl _) (Nat.zero_le _) (by simp)) ⟨b, off, none⟩ l.length cap (pairV l) rfl ?c1 ?c2 ?c3 ?c4 ?c5 ?c6 ?_)
  case c1 => exact pairV_length l
  case c2 =>
    intro j u hj
    rw [Addr.add_lit]
    exact pairs_cells (HA.out.alloc _) j u hj
  case c3 => exact pairV_one l
  case c4 => unfold maxLen; omega
  case c5 => omega
  case c6 => simp
  intro v' w1 hown hgrow hnil
  have Hnil := Lib.hid hnil
  have Hown := Lib.hid hown
  have Hgrow := Lib.hid hgrow
  clear hnil hown hgrow
  go_wp2
  go_ret
  refine ⟨v', rfl, by simpa [OwnPairs] using Hown.out, ?_⟩
  exact ((Below.refl _ w).alloc (Nat.le_refl _) _).grown Hgrow.out (by simp) (by intro k hk; simp [Value.ownBlock] at hk; omega)

end Go.Proofs.Ytfimjfchdaioeaa
