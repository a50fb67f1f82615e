/- Music with another tempo, both sides. No conditions but those written in each theorem. -/
import Derived.Test.YtbpphcdhbbhjpaaMuImpl
import Derived.Test.YtbpphcdhbbhjpaaOwn
import Derived.Test.YtbpphcdhbbhjpaaToMeasure
import Derived.Deep.RegionHeld3
import Derived.Deep.DrawnRows
import Derived.IntWalk
import Derived.Lib.SliceRun
import Derived.Laws.AppendOwn
namespace Go.Proofs.Ytbpphcdhbbhjpaa
open Go.RowKit


attribute [local go_sem ↓] Go.wp_at_zero Go.wp_at_succ

set_option maxHeartbeats 1000000 in
theorem clone_any (a : Option Addr) (cap : Nat) (l : List (Int × Int)) (h1 : 1 ≤ l.length) (hl : l.length ≤ 1048576) {w : World} (ha : PairsAt w a l) :
    Calls Try.prog 58 #[.slice a l.length cap] w fun e w' => ∃ v, e = .returned v ∧ OwnPairs 46 w' w.heap.size v l ∧ Below w.heap.size w w' := by
  obtain ⟨b, off, rfl⟩ := ha.some_of h1
  obtain ⟨j0, hi, hz0, hz1, hz2⟩ := info_parts Try.infoMeasure
  have HI := Lib.hid hi
  have HZ0 := Lib.hid hz0
  have HZ1 := Lib.hid hz1
  have HZ2 := Lib.hid hz2
  clear hi hz0 hz1 hz2
  have hnl : ∀ (w : World) (a : Option Addr) (n c n' c' : Nat), (binOp .eql 25 (.slice a n c) (.slice none n' c')).run Try.prog w = .ok (.bool a.isNone) w := fun w a n c n' c' => Lib.run_eql_slice_nil w _ _ a n c n' c' Try.underlying25
  have HA := Lib.hid ha
  clear ha
  go_enter Try.func58, Try.ntmps58
  go_wp2_with (at_builtin; refine wpList_append_own _ rfl _ _ 25 rfl (w.heap.size) 46 j0 (.agg #[.int .i64 0, .int .i64 0]) 2 16 Try.underlying25 HI.out HZ0.out HZ1.out HZ2.out rfl (by decide) _ _ _ rfl (World.ownsRow_made w #[] 0 (Nat.le_refl _) (Nat.zero_le _) (by simp)) ⟨b, off, none⟩ l.length cap (pairV l) rfl ?c1 ?c2 ?c3 ?c4 ?c5 ?c6 ?_)
  case c1 => exact pairV_length l
  case c2 =>
    intro j u hj
    rw [Addr.add_lit]
    exact pairs_cells (HA.out.alloc _) j u hj
  case c3 => exact pairV_one l
  case c4 => unfold maxLen; omega
  case c5 => omega
  case c6 => simp
  intro v' w1 hown hgrow hnil
  have Hnil := Lib.hid hnil
  have Hown := Lib.hid hown
  have Hgrow := Lib.hid hgrow
  clear hnil hown hgrow
  go_wp2
  go_ret
  refine ⟨v', rfl, by simpa [OwnPairs] using Hown.out, ?_⟩
  exact ((Below.refl _ w).alloc (Nat.le_refl _) _).grown Hgrow.out (by simp) (by intro k hk; simp [Value.ownBlock] at hk; omega)

/-- Is it music with such measures, and a tempo? -/
def okW (l : List (Int × Int)) (c d t : Int) : Bool := musOk l && spanB c d ((l.length : Int) - 1) && inB 40 t 220
/-- The music with another tempo. -/
def withT (l : List (Int × Int)) (c d t : Int) : List (Int × Int) := if okW l c d t then upT l t c.toNat (d + 1 - c).toNat else []
theorem withT_length (l : List (Int × Int)) (c d t : Int) : (withT l c d t).length ≤ l.length := by
  unfold withT
  split
  · rw [upT_length]; exact Nat.le_refl _
  · exact Nat.zero_le _

set_option maxHeartbeats 1000000 in
theorem withTempo_bad (a : Option Addr) (l : List (Int × Int)) (hl : l.length ≤ 1048576) {w : World} (ha : PairsAt w a l) (c d t : Int) (hg : musOk l = false) :
    Calls Try.prog 30 #[.slice a l.length l.length, .int .i64 c, .int .i64 d, .int .i64 t] w fun e w' => e = .returned (.tuple #[.slice none 0 0, .bool false]) ∧ Below w.heap.size w w' := by
  have HG := Lib.hid (fun (W : World) (hb : Below w.heap.size w W) => isMusic_any a l.length l hl (ha.below hb))
  skip
  all_goals
    go_enter Try.func30, Try.ntmps30
    go_wp2_with (first | (go_at_call 17; (refine (HG.out _ (by repeat (first | exact Below.refl _ _ | assumption | refine Below.drew ?_ | refine below_drewN ?_ _ | refine Below.alloc ?_ (by first | omega | (simp; done) | (simp; omega)) _ | refine Below.setCell ?_ (by first | omega | (simp; done) | (simp; omega)) _ | refine Below.trans ?_ (Below.mono (by assumption) (by first | omega | (simp; done) | (simp; omega)))))).mono ?_; rintro e w1 ⟨rfl, hb1⟩; have hs1 := hb1.size)))
    go_ret2
    exact ⟨rfl, (by repeat (first | exact Below.refl _ _ | assumption | refine Below.drew ?_ | refine below_drewN ?_ _ | refine Below.alloc ?_ (by first | omega | (simp; done) | (simp; omega)) _ | refine Below.setCell ?_ (by first | omega | (simp; done) | (simp; omega)) _ | refine Below.trans ?_ (Below.mono (by assumption) (by first | omega | (simp; done) | (simp; omega)))))⟩

set_option maxHeartbeats 1000000 in
theorem withTempo_no (a : Option Addr) (l : List (Int × Int)) (hm : musOk l = true) {w : World} (ha : PairsAt w a l) (c d t : Int) (hg : (spanB c d ((l.length : Int) - 1) && inB 40 t 220) = false) :
    Calls Try.prog 30 #[.slice a l.length l.length, .int .i64 c, .int .i64 d, .int .i64 t] w fun e w' => e = .returned (.tuple #[.slice none 0 0, .bool false]) ∧ Below w.heap.size w w' := by
  have hl : l.length ≤ 1048576 := by have := (musOk_len hm).2; omega
  obtain ⟨b1, b2⟩ := musOk_len hm
  have v1 : IntKind.i64.wrap ((l.length : Int) - 1) = (l.length : Int) - 1 := IntWalk.i64_in _ (by omega)
  have HG := Lib.hid (fun (W : World) (hb : Below w.heap.size w W) => isMusic_any a l.length l hl (ha.below hb))
  cases h1 : spanB c d ((l.length : Int) - 1) <;> cases h2 : inB 40 t 220
  all_goals first | (exfalso; rw [h1, h2] at hg; cases hg; done) | clear hg
  all_goals
    go_enter Try.func30, Try.ntmps30
    go_wp2_with (first | (go_at_call 17; (refine (HG.out _ (by repeat (first | exact Below.refl _ _ | assumption | refine Below.drew ?_ | refine below_drewN ?_ _ | refine Below.alloc ?_ (by first | omega | (simp; done) | (simp; omega)) _ | refine Below.setCell ?_ (by first | omega | (simp; done) | (simp; omega)) _ | refine Below.trans ?_ (Below.mono (by assumption) (by first | omega | (simp; done) | (simp; omega)))))).mono ?_; rintro e w1 ⟨rfl, hb1⟩; have hs1 := hb1.size)) | (go_at_call 56; (refine (isSpan_any _ _ _ _).mono ?_; rintro e w' ⟨rfl, rfl⟩)) | (go_at_call 43; (refine (inRange_any _ _ _ _).mono ?_; rintro e w' ⟨rfl, rfl⟩)))
    go_ret2
    exact ⟨rfl, (by repeat (first | exact Below.refl _ _ | assumption | refine Below.drew ?_ | refine below_drewN ?_ _ | refine Below.alloc ?_ (by first | omega | (simp; done) | (simp; omega)) _ | refine Below.setCell ?_ (by first | omega | (simp; done) | (simp; omega)) _ | refine Below.trans ?_ (Below.mono (by assumption) (by first | omega | (simp; done) | (simp; omega)))))⟩

set_option maxHeartbeats 2000000 in
theorem withTempo_yes (a : Option Addr) (l : List (Int × Int)) (hm : musOk l = true) {w : World} (ha : PairsAt w a l) (p q n : Nat) (t : Int) (hpq : p + n = q + 1) (hq : q < l.length) (hn : 1 ≤ n) (ht : inB 40 t 220 = true) :
    Calls Try.prog 30 #[.slice a l.length l.length, .int .i64 p, .int .i64 q, .int .i64 t] w fun e w' => ∃ v, e = .returned (.tuple #[v, .bool true]) ∧ OwnPairs 46 w' w.heap.size v (upT l t p n) ∧ Below w.heap.size w w' := by
  have hl : l.length ≤ 1048576 := by have := (musOk_len hm).2; omega
  obtain ⟨b1, b2⟩ := musOk_len hm
  have v1 : IntKind.i64.wrap ((l.length : Int) - 1) = (l.length : Int) - 1 := IntWalk.i64_in _ (by omega)
  have hsp : spanB (p : Int) (q : Int) ((l.length : Int) - 1) = true := spanB_iff.2 ⟨by omega, by omega, by omega⟩
  have HG := Lib.hid (fun (W : World) (hb : Below w.heap.size w W) => isMusic_any a l.length l hl (ha.below hb))
  have HC := Lib.hid (fun (W : World) (hb : Below w.heap.size w W) => clone_any a l.length l b1 hl (ha.below hb))
  go_enter Try.func30, Try.ntmps30
  go_wp2_with (first | (go_at_call 17; (refine (HG.out _ (by repeat (first | exact Below.refl _ _ | assumption | refine Below.drew ?_ | refine below_drewN ?_ _ | refine Below.alloc ?_ (by first | omega | (simp; done) | (simp; omega)) _ | refine Below.setCell ?_ (by first | omega | (simp; done) | (simp; omega)) _ | refine Below.trans ?_ (Below.mono (by assumption) (by first | omega | (simp; done) | (simp; omega)))))).mono ?_; rintro e w1 ⟨rfl, hb1⟩; have hs1 := hb1.size)) | (go_at_call 56; (refine (isSpan_any _ _ _ _).mono ?_; rintro e w' ⟨rfl, rfl⟩)) | (go_at_call 43; (refine (inRange_any _ _ _ _).mono ?_; rintro e w' ⟨rfl, rfl⟩)) | (go_at_call 58; (refine (HC.out _ (by repeat (first | exact Below.refl _ _ | assumption | refine Below.drew ?_ | refine below_drewN ?_ _ | refine Below.alloc ?_ (by first | omega | (simp; done) | (simp; omega)) _ | refine Below.setCell ?_ (by first | omega | (simp; done) | (simp; omega)) _ | refine Below.trans ?_ (Below.mono (by assumption) (by first | omega | (simp; done) | (simp; omega)))))).mono ?_; rintro e w2 ⟨v, rfl, ho2, hb2⟩; have hs2 := hb2.size)))
  have hbw : Below w.heap.size w w2 := (by repeat (first | exact Below.refl _ _ | assumption | refine Below.drew ?_ | refine below_drewN ?_ _ | refine Below.alloc ?_ (by first | omega | (simp; done) | (simp; omega)) _ | refine Below.setCell ?_ (by first | omega | (simp; done) | (simp; omega)) _ | refine Below.trans ?_ (Below.mono (by assumption) (by first | omega | (simp; done) | (simp; omega)))))
  have ho3 := own_mono ho2 hs1
  clear hb2 hb1 hs2 ho2
  rcases own_formP ho3 with ⟨rfl, e0⟩ | ⟨g, cap', rfl, hgb, hgl⟩
  · rw [e0] at b1; exact absurd b1 (by simp)
  clear v1
  go_loopw [11] (fun i wr => ∃ k : Nat, k ≤ n ∧ i = .int .i64 ((p + k : Nat) : Int) ∧ wr.ownsRow w.heap.size 46 2 (.slice (some ⟨g, 0, none⟩) l.length cap') l.length (pairV (upT l t p k)) ∧ Below w.heap.size w wr) (fun i _ => p + n - (intOf i).toNat)
  case atStart => exact ⟨0, Nat.zero_le _, by simp, ho3, (by repeat (first | exact Below.refl _ _ | assumption | refine Below.drew ?_ | refine below_drewN ?_ _ | refine Below.alloc ?_ (by first | omega | (simp; done) | (simp; omega)) _ | refine Below.setCell ?_ (by first | omega | (simp; done) | (simp; omega)) _ | refine Below.trans ?_ (Below.mono (by assumption) (by first | omega | (simp; done) | (simp; omega)))))⟩
  case round =>
    obtain ⟨k, hk, rfl, hown, hbr⟩ := hrel
    have hsr := hbr.size
    by_cases hlt : k < n
    · have hyl := hown.1
      have hst := own_setY hown (p + k) t
      have Hst := Lib.hid hst
      have hc1 := hown.cellAt ((p + k) * 2 + 1) (by omega)
      obtain ⟨u, hu⟩ : ∃ u, (pairV (upT l t p k))[(p + k) * 2 + 1]? = some u := ⟨_, List.getElem?_eq_getElem (by omega)⟩
      have c1 : wr.cell? ⟨g, (p + k) * 2 + 1, none⟩ = some u := hc1.trans hu
      have f1 := hown.frozenAt ((p + k) * 2 + 1)
      clear hst hc1 hu hyl
      have i0 : (0 : Int) ≤ ((p + k : Nat) : Int) := by omega
      have i1 : ((p + k : Nat) : Int) < (l.length : Int) := by omega
      have i2 : ((p + k : Nat) : Int) ≤ (q : Int) := by omega
      have i3 : p + k ≤ q := by omega
      have i4 : p + k < l.length := by omega
      go_wp2
      go_roundw
      case rel => exact ⟨k + 1, by omega, by go_num, Hst.out.1, gb_below hbr Hst.out.2 hgb⟩
      case measure => simp [intOf]; omega
    · obtain rfl : k = n := by omega
      have i2 : ¬ ((p + k : Nat) : Int) ≤ (q : Int) := by omega
      have i3 : ¬ p + k ≤ q := by omega
      go_wp2
      exact bodyPost_ret (v := .tuple #[.slice (some ⟨g, 0, none⟩) l.length cap', .bool true]) (by simp [results, Try.results30, go_sem]) rfl ⟨_, rfl, by rw [OwnPairs, upT_length]; exact hown, (by repeat (first | exact Below.refl _ _ | assumption | refine Below.drew ?_ | refine below_drewN ?_ _ | refine Below.alloc ?_ (by first | omega | (simp; done) | (simp; omega)) _ | refine Below.setCell ?_ (by first | omega | (simp; done) | (simp; omega)) _ | refine Below.trans ?_ (Below.mono (by assumption) (by first | omega | (simp; done) | (simp; omega)))))⟩


theorem withTempo_any (a : Option Addr) (l : List (Int × Int)) (hl : l.length ≤ 1048576) {w : World} (ha : PairsAt w a l) (c d t : Int) :
    Calls Try.prog 30 #[.slice a l.length l.length, .int .i64 c, .int .i64 d, .int .i64 t] w fun e w' => ∃ v, e = .returned (.tuple #[v, .bool (okW l c d t)]) ∧ OwnPairs 46 w' w.heap.size v (withT l c d t) ∧ Below w.heap.size w w' := by
  cases hk : okW l c d t
  · have e : withT l c d t = [] := by unfold withT; rw [hk]; rfl
    rw [e]
    have hno : Calls Try.prog 30 #[.slice a l.length l.length, .int .i64 c, .int .i64 d, .int .i64 t] w fun e w' => e = .returned (.tuple #[.slice none 0 0, .bool false]) ∧ Below w.heap.size w w' := by
      cases hm : musOk l
      · exact withTempo_bad a l hl ha c d t hm
      · refine withTempo_no a l hm ha c d t ?_
        unfold okW at hk
        rw [hm] at hk
        simpa using hk
    exact hno.mono fun e w' ⟨he, hb⟩ => ⟨_, he, own_nil _ _ _, hb⟩
  · have e : withT l c d t = upT l t c.toNat (d + 1 - c).toNat := by unfold withT; rw [hk]; rfl
    rw [e]
    unfold okW at hk
    rw [Bool.and_eq_true, Bool.and_eq_true] at hk
    obtain ⟨⟨hm, hs⟩, ht⟩ := hk
    obtain ⟨s1, s2, s3⟩ := spanB_iff.1 hs
    have h := withTempo_yes a l hm ha c.toNat d.toNat (d + 1 - c).toNat t (by omega) (by omega) (by omega) ht
    rw [Int.toNat_of_nonneg s1, Int.toNat_of_nonneg (by omega)] at h
    exact h

set_option maxHeartbeats 1000000 in
theorem muRange_bad (a : Option Addr) (cap : Nat) (l : List (Int × Int)) (hl : l.length ≤ 1048576) {w : World} (ha : PairsAt w a l) (c d : Int) (hg : musOk l = false) :
    Calls Try.prog 57 #[.slice a l.length cap, .int .i64 c, .int .i64 d] w fun e w' => e = .returned (.bool false) ∧ Below w.heap.size w w' := by
  have HG := Lib.hid (fun (W : World) (hb : Below w.heap.size w W) => muGood_any a cap l hl (ha.below hb))
  skip
  all_goals
    go_enter Try.func57, Try.ntmps57
    go_wp2_with (first | (go_at_call 41; (refine (HG.out _ (by repeat (first | exact Below.refl _ _ | assumption | refine Below.drew ?_ | refine below_drewN ?_ _ | refine Below.alloc ?_ (by first | omega | (simp; done) | (simp; omega)) _ | refine Below.setCell ?_ (by first | omega | (simp; done) | (simp; omega)) _ | refine Below.trans ?_ (Below.mono (by assumption) (by first | omega | (simp; done) | (simp; omega)))))).mono ?_; rintro e w1 ⟨rfl, hb1⟩; have hs1 := hb1.size)))
    go_ret
    exact ⟨rfl, (by repeat (first | exact Below.refl _ _ | assumption | refine Below.drew ?_ | refine below_drewN ?_ _ | refine Below.alloc ?_ (by first | omega | (simp; done) | (simp; omega)) _ | refine Below.setCell ?_ (by first | omega | (simp; done) | (simp; omega)) _ | refine Below.trans ?_ (Below.mono (by assumption) (by first | omega | (simp; done) | (simp; omega)))))⟩

set_option maxHeartbeats 1000000 in
theorem muRange_ok (a : Option Addr) (cap : Nat) (l : List (Int × Int)) (hm : musOk l = true) {w : World} (ha : PairsAt w a l) (c d : Int) (b : Bool) (hb : b = (inB 0 c d && inB c d ((l.length : Int) - 1))) :
    Calls Try.prog 57 #[.slice a l.length cap, .int .i64 c, .int .i64 d] w fun e w' => e = .returned (.bool b) ∧ Below w.heap.size w w' := by
  have hl : l.length ≤ 1048576 := by have := (musOk_len hm).2; omega
  obtain ⟨b1, b2⟩ := musOk_len hm
  have v1 : IntKind.i64.wrap ((l.length : Int) - 1) = (l.length : Int) - 1 := IntWalk.i64_in _ (by omega)
  have HG := Lib.hid (fun (W : World) (hb : Below w.heap.size w W) => muGood_any a cap l hl (ha.below hb))
  have Hb := Lib.hid hb
  clear hb
  cases h1 : inB 0 c d <;> cases h2 : inB c d ((l.length : Int) - 1)
  all_goals
    go_enter Try.func57, Try.ntmps57
    go_wp2_with (first | (go_at_call 41; (refine (HG.out _ (by repeat (first | exact Below.refl _ _ | assumption | refine Below.drew ?_ | refine below_drewN ?_ _ | refine Below.alloc ?_ (by first | omega | (simp; done) | (simp; omega)) _ | refine Below.setCell ?_ (by first | omega | (simp; done) | (simp; omega)) _ | refine Below.trans ?_ (Below.mono (by assumption) (by first | omega | (simp; done) | (simp; omega)))))).mono ?_; rintro e w1 ⟨rfl, hb1⟩; have hs1 := hb1.size)) | (go_at_call 53; (refine (l1In_any _ _ _ _).mono ?_; rintro e w' ⟨rfl, rfl⟩)))
    go_ret
    exact ⟨by rw [Hb.out, h1, h2]; rfl, (by repeat (first | exact Below.refl _ _ | assumption | refine Below.drew ?_ | refine below_drewN ?_ _ | refine Below.alloc ?_ (by first | omega | (simp; done) | (simp; omega)) _ | refine Below.setCell ?_ (by first | omega | (simp; done) | (simp; omega)) _ | refine Below.trans ?_ (Below.mono (by assumption) (by first | omega | (simp; done) | (simp; omega)))))⟩

theorem span_two (c d m : Int) : spanB c d m = (inB 0 c d && inB c d m) := by
  rw [Bool.eq_iff_iff, Bool.and_eq_true, spanB_iff, inB_iff, inB_iff]
  omega
theorem muRange_any (a : Option Addr) (cap : Nat) (l : List (Int × Int)) (hl : l.length ≤ 1048576) {w : World} (ha : PairsAt w a l) (c d : Int) :
    Calls Try.prog 57 #[.slice a l.length cap, .int .i64 c, .int .i64 d] w fun e w' => e = .returned (.bool (musOk l && spanB c d ((l.length : Int) - 1))) ∧ Below w.heap.size w w' := by
  cases hm : musOk l
  · exact muRange_bad a cap l hl ha c d hm
  · exact muRange_ok a cap l hm ha c d _ (by rw [span_two]; rfl)

set_option maxHeartbeats 1000000 in
theorem specWith_no (a : Option Addr) (cap : Nat) (l : List (Int × Int)) (hl : l.length ≤ 1048576) {w : World} (ha : PairsAt w a l) (c d t : Int) (hk : okW l c d t = false) :
    Calls Try.prog 29 #[.slice a l.length cap, .int .i64 c, .int .i64 d, .int .i64 t] w fun e w' => e = .returned (.tuple #[.slice none 0 0, .bool false]) ∧ Below w.heap.size w w' := by
  have HG := Lib.hid (fun (W : World) (hb : Below w.heap.size w W) => muRange_any a cap l hl (ha.below hb) c d)
  have hk2 : ((musOk l && spanB c d ((l.length : Int) - 1)) && inB 40 t 220) = false := hk
  clear hk
  cases h1 : (musOk l && spanB c d ((l.length : Int) - 1)) <;> cases h2 : inB 40 t 220
  all_goals first | (exfalso; rw [h1, h2] at hk2; cases hk2; done) | clear hk2
  all_goals (rw [h1] at HG; clear h1)
  all_goals
    go_enter Try.func29, Try.ntmps29
    go_wp2_with (first | (go_at_call 57; (refine (HG.out _ (by repeat (first | exact Below.refl _ _ | assumption | refine Below.drew ?_ | refine below_drewN ?_ _ | refine Below.alloc ?_ (by first | omega | (simp; done) | (simp; omega)) _ | refine Below.setCell ?_ (by first | omega | (simp; done) | (simp; omega)) _ | refine Below.trans ?_ (Below.mono (by assumption) (by first | omega | (simp; done) | (simp; omega)))))).mono ?_; rintro e w1 ⟨rfl, hb1⟩; have hs1 := hb1.size)) | (go_at_call 53; (refine (l1In_any _ _ _ _).mono ?_; rintro e w' ⟨rfl, rfl⟩)))
    go_ret2
    exact ⟨rfl, (by repeat (first | exact Below.refl _ _ | assumption | refine Below.drew ?_ | refine below_drewN ?_ _ | refine Below.alloc ?_ (by first | omega | (simp; done) | (simp; omega)) _ | refine Below.setCell ?_ (by first | omega | (simp; done) | (simp; omega)) _ | refine Below.trans ?_ (Below.mono (by assumption) (by first | omega | (simp; done) | (simp; omega)))))⟩

set_option maxHeartbeats 2000000 in
theorem specWith_yes (a : Option Addr) (cap : Nat) (l : List (Int × Int)) (hm : musOk l = true) {w : World} (ha : PairsAt w a l) (p q n : Nat) (t : Int) (hpq : p + n = q + 1) (hq : q < l.length) (hn : 1 ≤ n) (ht : inB 40 t 220 = true) :
    Calls Try.prog 29 #[.slice a l.length cap, .int .i64 p, .int .i64 q, .int .i64 t] w fun e w' => ∃ v, e = .returned (.tuple #[v, .bool true]) ∧ OwnPairs 46 w' w.heap.size v (upT l t p n) ∧ Below w.heap.size w w' := by
  have hl : l.length ≤ 1048576 := by have := (musOk_len hm).2; omega
  obtain ⟨b1, b2⟩ := musOk_len hm
  have v1 : IntKind.i64.wrap ((l.length : Int) - 1) = (l.length : Int) - 1 := IntWalk.i64_in _ (by omega)
  have hr0 := fun (W : World) (hb : Below w.heap.size w W) => muRange_any a cap l hl (ha.below hb) (p : Int) (q : Int)
  rw [hm, spanB_iff.2 (show 0 ≤ (p : Int) ∧ (p : Int) ≤ (q : Int) ∧ (q : Int) ≤ (l.length : Int) - 1 from ⟨by omega, by omega, by omega⟩)] at hr0
  have HG := Lib.hid hr0
  clear hr0 hm
  obtain ⟨b, off, rfl⟩ := ha.some_of b1
  obtain ⟨j0, hi, hz0, hz1, hz2⟩ := info_parts Try.infoMeasure
  have HI := Lib.hid hi
  have HZ0 := Lib.hid hz0
  have HZ1 := Lib.hid hz1
  have HZ2 := Lib.hid hz2
  clear hi hz0 hz1 hz2
  have HA := Lib.hid ha
  clear ha
  go_enter Try.func29, Try.ntmps29
  go_wp2_with (first | (go_at_call 57; (refine (HG.out _ (by repeat (first | exact Below.refl _ _ | assumption | refine Below.drew ?_ | refine below_drewN ?_ _ | refine Below.alloc ?_ (by first | omega | (simp; done) | (simp; omega)) _ | refine Below.setCell ?_ (by first | omega | (simp; done) | (simp; omega)) _ | refine Below.trans ?_ (Below.mono (by assumption) (by first | omega | (simp; done) | (simp; omega)))))).mono ?_; rintro e w1 ⟨rfl, hb1⟩; have hs1 := hb1.size)) | (go_at_call 53; (refine (l1In_any _ _ _ _).mono ?_; rintro e w' ⟨rfl, rfl⟩)) | (at_builtin; refine wpList_append_own _ rfl _ _ 25 rfl (w.heap.size) 46 j0 (.agg #[.int .i64 0, .int .i64 0]) 2 16 Try.underlying25 HI.out HZ0.out HZ1.out HZ2.out rfl (by decide) _ _ _ rfl (World.ownsRow_made w1 #[] 0 hs1 (Nat.zero_le _) (by simp)) ⟨b, off, none⟩ l.length cap (pairV l) rfl ?c1 ?c2 ?c3 ?c4 ?c5 ?c6 ?_))
  case c1 => exact pairV_length l
  case c2 =>
    intro j u hj
    rw [Addr.add_lit]
    exact pairs_cells ((HA.out.below hb1).alloc _) j u hj
  case c3 => exact pairV_one l
  case c4 => unfold maxLen; omega
  case c5 => omega
  case c6 => simp; omega
  intro v' w2 hown hgrow hnil
  have ho3 : OwnPairs 46 w2 w.heap.size v' l := by simpa [OwnPairs] using hown
  have hbw : Below w.heap.size w w2 := (hb1.alloc hs1 _).grown hgrow (by simp; omega) (by intro k hk; simp [Value.ownBlock] at hk; omega)
  have hs2 := hbw.size
  clear hb1 hs1 hown hgrow hnil
  rcases own_formP ho3 with ⟨rfl, e0⟩ | ⟨g, cap', rfl, hgb, hgl⟩
  · rw [e0] at b1; exact absurd b1 (by simp)
  clear v1
  go_wp2
  go_loopw [11] (fun i wr => ∃ k : Nat, k ≤ n ∧ i = .int .i64 ((p + k : Nat) : Int) ∧ wr.ownsRow w.heap.size 46 2 (.slice (some ⟨g, 0, none⟩) l.length cap') l.length (pairV (upT l t p k)) ∧ Below w.heap.size w wr) (fun i _ => p + n - (intOf i).toNat)
  case atStart => exact ⟨0, Nat.zero_le _, by simp, ho3, (by repeat (first | exact Below.refl _ _ | assumption | refine Below.drew ?_ | refine below_drewN ?_ _ | refine Below.alloc ?_ (by first | omega | (simp; done) | (simp; omega)) _ | refine Below.setCell ?_ (by first | omega | (simp; done) | (simp; omega)) _ | refine Below.trans ?_ (Below.mono (by assumption) (by first | omega | (simp; done) | (simp; omega)))))⟩
  case round =>
    obtain ⟨k, hk, rfl, hown, hbr⟩ := hrel
    have hsr := hbr.size
    by_cases hlt : k < n
    · have hyl := hown.1
      have hst := own_setY hown (p + k) t
      have Hst := Lib.hid hst
      have hc1 := hown.cellAt ((p + k) * 2 + 1) (by omega)
      obtain ⟨u, hu⟩ : ∃ u, (pairV (upT l t p k))[(p + k) * 2 + 1]? = some u := ⟨_, List.getElem?_eq_getElem (by omega)⟩
      have c1 : wr.cell? ⟨g, (p + k) * 2 + 1, none⟩ = some u := hc1.trans hu
      have f1 := hown.frozenAt ((p + k) * 2 + 1)
      clear hst hc1 hu hyl
      have i0 : (0 : Int) ≤ ((p + k : Nat) : Int) := by omega
      have i1 : ((p + k : Nat) : Int) < (l.length : Int) := by omega
      have i2 : ((p + k : Nat) : Int) ≤ (q : Int) := by omega
      have i3 : p + k ≤ q := by omega
      have i4 : p + k < l.length := by omega
      go_wp2
      go_roundw
      case rel => exact ⟨k + 1, by omega, by go_num, Hst.out.1, gb_below hbr Hst.out.2 hgb⟩
      case measure => simp [intOf]; omega
    · obtain rfl : k = n := by omega
      have i2 : ¬ ((p + k : Nat) : Int) ≤ (q : Int) := by omega
      have i3 : ¬ p + k ≤ q := by omega
      go_wp2
      exact bodyPost_ret (v := .tuple #[.slice (some ⟨g, 0, none⟩) l.length cap', .bool true]) (by simp [results, Try.results29, go_sem]) rfl ⟨_, rfl, by rw [OwnPairs, upT_length]; exact hown, (by repeat (first | exact Below.refl _ _ | assumption | refine Below.drew ?_ | refine below_drewN ?_ _ | refine Below.alloc ?_ (by first | omega | (simp; done) | (simp; omega)) _ | refine Below.setCell ?_ (by first | omega | (simp; done) | (simp; omega)) _ | refine Below.trans ?_ (Below.mono (by assumption) (by first | omega | (simp; done) | (simp; omega)))))⟩

theorem specWith_any (a : Option Addr) (cap : Nat) (l : List (Int × Int)) (hl : l.length ≤ 1048576) {w : World} (ha : PairsAt w a l) (c d t : Int) :
    Calls Try.prog 29 #[.slice a l.length cap, .int .i64 c, .int .i64 d, .int .i64 t] w fun e w' => ∃ v, e = .returned (.tuple #[v, .bool (okW l c d t)]) ∧ OwnPairs 46 w' w.heap.size v (withT l c d t) ∧ Below w.heap.size w w' := by
  cases hk : okW l c d t
  · have e : withT l c d t = [] := by unfold withT; rw [hk]; rfl
    rw [e]
    exact (specWith_no a cap l hl ha c d t hk).mono fun e w' ⟨he, hb⟩ => ⟨_, he, own_nil _ _ _, hb⟩
  · have e : withT l c d t = upT l t c.toNat (d + 1 - c).toNat := by unfold withT; rw [hk]; rfl
    rw [e]
    unfold okW at hk
    rw [Bool.and_eq_true, Bool.and_eq_true] at hk
    obtain ⟨⟨hm, hs⟩, ht⟩ := hk
    obtain ⟨s1, s2, s3⟩ := spanB_iff.1 hs
    have h := specWith_yes a cap l hm ha c.toNat d.toNat (d + 1 - c).toNat t (by omega) (by omega) (by omega) ht
    rw [Int.toNat_of_nonneg s1, Int.toNat_of_nonneg (by omega)] at h
    exact h

end Go.Proofs.Ytbpphcdhbbhjpaa
