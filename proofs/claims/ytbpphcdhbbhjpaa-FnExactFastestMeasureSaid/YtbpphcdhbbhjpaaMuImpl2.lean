/- Music, as the program reads it: its functions with plain results. No conditions but those written in each theorem. -/
import Derived.Test.YtbpphcdhbbhjpaaMuImpl
import Derived.Deep.RegionHeld3
import Derived.Deep.DrawnRows
import Derived.IntWalk
namespace Go.Proofs.Ytbpphcdhbbhjpaa
open Go.RowKit


attribute [local go_sem ↓] Go.wp_at_zero Go.wp_at_succ

set_option maxHeartbeats 1000000 in
theorem countsOf_no (a : Option Addr) (l : List (Int × Int)) (hl : l.length ≤ 1048576) {w : World} (ha : PairsAt w a l) (hg : musOk l = false) :
    Calls Try.prog 20 #[.slice a l.length l.length] w fun e w' => e = .returned (.tuple #[.int .i64 0, .bool false]) ∧ Below w.heap.size w w' := by
  have HG := Lib.hid (fun (W : World) (hb : Below w.heap.size w W) => isMusic_any a l.length l hl (ha.below hb))
  skip
  all_goals
    go_enter Try.func20, Try.ntmps20
    go_wp2_with (first | (go_at_call 17; (refine (HG.out _ (by repeat (first | exact Below.refl _ _ | assumption | refine Below.drew ?_ | refine below_drewN ?_ _ | refine Below.alloc ?_ (by first | omega | (simp; done) | (simp; omega)) _ | refine Below.setCell ?_ (by first | omega | (simp; done) | (simp; omega)) _ | refine Below.trans ?_ (Below.mono (by assumption) (by first | omega | (simp; done) | (simp; omega)))))).mono ?_; rintro e w1 ⟨rfl, hb1⟩; have hs1 := hb1.size)))
    go_ret2
    exact ⟨rfl, (by repeat (first | exact Below.refl _ _ | assumption | refine Below.drew ?_ | refine below_drewN ?_ _ | refine Below.alloc ?_ (by first | omega | (simp; done) | (simp; omega)) _ | refine Below.setCell ?_ (by first | omega | (simp; done) | (simp; omega)) _ | refine Below.trans ?_ (Below.mono (by assumption) (by first | omega | (simp; done) | (simp; omega)))))⟩

set_option maxHeartbeats 1000000 in
theorem countsOf_yes (a : Option Addr) (l : List (Int × Int)) (hm : musOk l = true) {w : World} (ha : PairsAt w a l) :
    Calls Try.prog 20 #[.slice a l.length l.length] w fun e w' => e = .returned (.tuple #[.int .i64 (total l), .bool true]) ∧ Below w.heap.size w w' := by
  have hl : l.length ≤ 1048576 := by have := (musOk_len hm).2; omega
  obtain ⟨b1, b2⟩ := total_bound hm
  have HG := Lib.hid (fun (W : World) (hb : Below w.heap.size w W) => isMusic_any a l.length l hl (ha.below hb))
  have HC := Lib.hid (fun (W : World) (hb : Below w.heap.size w W) => sumOfCounts_any a l.length l hm (ha.below hb))
  skip
  all_goals
    go_enter Try.func20, Try.ntmps20
    go_wp2_with (first | (go_at_call 17; (refine (HG.out _ (by repeat (first | exact Below.refl _ _ | assumption | refine Below.drew ?_ | refine below_drewN ?_ _ | refine Below.alloc ?_ (by first | omega | (simp; done) | (simp; omega)) _ | refine Below.setCell ?_ (by first | omega | (simp; done) | (simp; omega)) _ | refine Below.trans ?_ (Below.mono (by assumption) (by first | omega | (simp; done) | (simp; omega)))))).mono ?_; rintro e w1 ⟨rfl, hb1⟩; have hs1 := hb1.size)) | (go_at_call 46; (refine (HC.out _ (by repeat (first | exact Below.refl _ _ | assumption | refine Below.drew ?_ | refine below_drewN ?_ _ | refine Below.alloc ?_ (by first | omega | (simp; done) | (simp; omega)) _ | refine Below.setCell ?_ (by first | omega | (simp; done) | (simp; omega)) _ | refine Below.trans ?_ (Below.mono (by assumption) (by first | omega | (simp; done) | (simp; omega)))))).mono ?_; rintro e w1 ⟨rfl, hb1⟩; have hs1 := hb1.size)))
    go_ret2
    exact ⟨rfl, (by repeat (first | exact Below.refl _ _ | assumption | refine Below.drew ?_ | refine below_drewN ?_ _ | refine Below.alloc ?_ (by first | omega | (simp; done) | (simp; omega)) _ | refine Below.setCell ?_ (by first | omega | (simp; done) | (simp; omega)) _ | refine Below.trans ?_ (Below.mono (by assumption) (by first | omega | (simp; done) | (simp; omega)))))⟩

theorem countsOf_any (a : Option Addr) (l : List (Int × Int)) (hl : l.length ≤ 1048576) {w : World} (ha : PairsAt w a l) :
    Calls Try.prog 20 #[.slice a l.length l.length] w fun e w' => e = .returned (.tuple #[.int .i64 (guardI (musOk l) (total l)), .bool (musOk l)]) ∧ Below w.heap.size w w' := by
  cases hm : musOk l
  · exact countsOf_no a l hl ha hm
  · exact countsOf_yes a l hm ha

set_option maxHeartbeats 1000000 in
theorem measureAt_bad (a : Option Addr) (l : List (Int × Int)) (hl : l.length ≤ 1048576) {w : World} (ha : PairsAt w a l) (c : Int) (hg : musOk l = false) :
    Calls Try.prog 22 #[.slice a l.length l.length, .int .i64 c] w fun e w' => e = .returned (.tuple #[.int .i64 0, .int .i64 0, .bool false]) ∧ Below w.heap.size w w' := by
  have HG := Lib.hid (fun (W : World) (hb : Below w.heap.size w W) => isMusic_any a l.length l hl (ha.below hb))
  skip
  all_goals
    go_enter Try.func22, Try.ntmps22
    go_wp2_with (first | (go_at_call 17; (refine (HG.out _ (by repeat (first | exact Below.refl _ _ | assumption | refine Below.drew ?_ | refine below_drewN ?_ _ | refine Below.alloc ?_ (by first | omega | (simp; done) | (simp; omega)) _ | refine Below.setCell ?_ (by first | omega | (simp; done) | (simp; omega)) _ | refine Below.trans ?_ (Below.mono (by assumption) (by first | omega | (simp; done) | (simp; omega)))))).mono ?_; rintro e w1 ⟨rfl, hb1⟩; have hs1 := hb1.size)))
    go_ret3
    exact ⟨rfl, (by repeat (first | exact Below.refl _ _ | assumption | refine Below.drew ?_ | refine below_drewN ?_ _ | refine Below.alloc ?_ (by first | omega | (simp; done) | (simp; omega)) _ | refine Below.setCell ?_ (by first | omega | (simp; done) | (simp; omega)) _ | refine Below.trans ?_ (Below.mono (by assumption) (by first | omega | (simp; done) | (simp; omega)))))⟩

set_option maxHeartbeats 1000000 in
theorem measureAt_neg (a : Option Addr) (l : List (Int × Int)) (hm : musOk l = true) {w : World} (ha : PairsAt w a l) (c : Int) (hn : c < 0) :
    Calls Try.prog 22 #[.slice a l.length l.length, .int .i64 c] w fun e w' => e = .returned (.tuple #[.int .i64 0, .int .i64 0, .bool false]) ∧ Below w.heap.size w w' := by
  have hl : l.length ≤ 1048576 := by have := (musOk_len hm).2; omega
  obtain ⟨b1, b2⟩ := total_bound hm
  have HG := Lib.hid (fun (W : World) (hb : Below w.heap.size w W) => isMusic_any a l.length l hl (ha.below hb))
  skip
  all_goals
    go_enter Try.func22, Try.ntmps22
    go_wp2_with (first | (go_at_call 17; (refine (HG.out _ (by repeat (first | exact Below.refl _ _ | assumption | refine Below.drew ?_ | refine below_drewN ?_ _ | refine Below.alloc ?_ (by first | omega | (simp; done) | (simp; omega)) _ | refine Below.setCell ?_ (by first | omega | (simp; done) | (simp; omega)) _ | refine Below.trans ?_ (Below.mono (by assumption) (by first | omega | (simp; done) | (simp; omega)))))).mono ?_; rintro e w1 ⟨rfl, hb1⟩; have hs1 := hb1.size)))
    go_ret3
    exact ⟨rfl, (by repeat (first | exact Below.refl _ _ | assumption | refine Below.drew ?_ | refine below_drewN ?_ _ | refine Below.alloc ?_ (by first | omega | (simp; done) | (simp; omega)) _ | refine Below.setCell ?_ (by first | omega | (simp; done) | (simp; omega)) _ | refine Below.trans ?_ (Below.mono (by assumption) (by first | omega | (simp; done) | (simp; omega)))))⟩

set_option maxHeartbeats 1000000 in
theorem measureAt_far (a : Option Addr) (l : List (Int × Int)) (hm : musOk l = true) {w : World} (ha : PairsAt w a l) (c : Int) (h0 : 0 ≤ c) (h9 : c ≤ 9223372036854775807) (hn : ¬ c < total l) :
    Calls Try.prog 22 #[.slice a l.length l.length, .int .i64 c] w fun e w' => e = .returned (.tuple #[.int .i64 0, .int .i64 0, .bool false]) ∧ Below w.heap.size w w' := by
  have hl : l.length ≤ 1048576 := by have := (musOk_len hm).2; omega
  obtain ⟨b1, b2⟩ := total_bound hm
  have HG := Lib.hid (fun (W : World) (hb : Below w.heap.size w W) => isMusic_any a l.length l hl (ha.below hb))
  have hpl := plI_out hn
  have hp0 := fun (W : World) (hb : Below w.heap.size w W) => placeOfCount_any a l.length l hm (ha.below hb) c h0 h9
  rw [hpl] at hp0
  have HP := Lib.hid hp0
  clear hp0 hpl
  all_goals
    go_enter Try.func22, Try.ntmps22
    go_wp2_with (first | (go_at_call 17; (refine (HG.out _ (by repeat (first | exact Below.refl _ _ | assumption | refine Below.drew ?_ | refine below_drewN ?_ _ | refine Below.alloc ?_ (by first | omega | (simp; done) | (simp; omega)) _ | refine Below.setCell ?_ (by first | omega | (simp; done) | (simp; omega)) _ | refine Below.trans ?_ (Below.mono (by assumption) (by first | omega | (simp; done) | (simp; omega)))))).mono ?_; rintro e w1 ⟨rfl, hb1⟩; have hs1 := hb1.size)) | (go_at_call 49; (refine (HP.out _ (by repeat (first | exact Below.refl _ _ | assumption | refine Below.drew ?_ | refine below_drewN ?_ _ | refine Below.alloc ?_ (by first | omega | (simp; done) | (simp; omega)) _ | refine Below.setCell ?_ (by first | omega | (simp; done) | (simp; omega)) _ | refine Below.trans ?_ (Below.mono (by assumption) (by first | omega | (simp; done) | (simp; omega)))))).mono ?_; rintro e w1 ⟨rfl, hb1⟩; have hs1 := hb1.size)))
    go_ret3
    exact ⟨rfl, (by repeat (first | exact Below.refl _ _ | assumption | refine Below.drew ?_ | refine below_drewN ?_ _ | refine Below.alloc ?_ (by first | omega | (simp; done) | (simp; omega)) _ | refine Below.setCell ?_ (by first | omega | (simp; done) | (simp; omega)) _ | refine Below.trans ?_ (Below.mono (by assumption) (by first | omega | (simp; done) | (simp; omega)))))⟩

set_option maxHeartbeats 1000000 in
theorem measureAt_yes (a : Option Addr) (l : List (Int × Int)) (hm : musOk l = true) {w : World} (ha : PairsAt w a l) (c : Int) (h0 : 0 ≤ c) (h9 : c ≤ 9223372036854775807) (hn : c < total l) :
    Calls Try.prog 22 #[.slice a l.length l.length, .int .i64 c] w fun e w' => e = .returned (.tuple #[.int .i64 (atM l c), .int .i64 (c - cn l (atM l c)), .bool true]) ∧ Below w.heap.size w w' := by
  have hl : l.length ≤ 1048576 := by have := (musOk_len hm).2; omega
  obtain ⟨b1, b2⟩ := total_bound hm
  have HG := Lib.hid (fun (W : World) (hb : Below w.heap.size w W) => isMusic_any a l.length l hl (ha.below hb))
  have hpl := plI_in hn
  have hp0 := fun (W : World) (hb : Below w.heap.size w W) => placeOfCount_any a l.length l hm (ha.below hb) c h0 h9
  rw [hpl] at hp0
  have HP := Lib.hid hp0
  obtain ⟨a1, a2, a3⟩ := atM_lt hm h0 hn
  clear hp0 hpl a2 a3
  obtain ⟨i, hi⟩ : ∃ i, i = atM l c := ⟨_, rfl⟩
  rw [← hi] at a1 HP ⊢
  have i1 : ((i : Int) == (l.length : Int)) = false := by rw [beq_eq_false_iff_ne]; omega
  have i2 : ¬ (i = l.length) := by omega
  clear hi
  all_goals
    go_enter Try.func22, Try.ntmps22
    go_wp2_with (first | (go_at_call 17; (refine (HG.out _ (by repeat (first | exact Below.refl _ _ | assumption | refine Below.drew ?_ | refine below_drewN ?_ _ | refine Below.alloc ?_ (by first | omega | (simp; done) | (simp; omega)) _ | refine Below.setCell ?_ (by first | omega | (simp; done) | (simp; omega)) _ | refine Below.trans ?_ (Below.mono (by assumption) (by first | omega | (simp; done) | (simp; omega)))))).mono ?_; rintro e w1 ⟨rfl, hb1⟩; have hs1 := hb1.size)) | (go_at_call 49; (refine (HP.out _ (by repeat (first | exact Below.refl _ _ | assumption | refine Below.drew ?_ | refine below_drewN ?_ _ | refine Below.alloc ?_ (by first | omega | (simp; done) | (simp; omega)) _ | refine Below.setCell ?_ (by first | omega | (simp; done) | (simp; omega)) _ | refine Below.trans ?_ (Below.mono (by assumption) (by first | omega | (simp; done) | (simp; omega)))))).mono ?_; rintro e w1 ⟨rfl, hb1⟩; have hs1 := hb1.size)))
    go_ret3
    exact ⟨rfl, (by repeat (first | exact Below.refl _ _ | assumption | refine Below.drew ?_ | refine below_drewN ?_ _ | refine Below.alloc ?_ (by first | omega | (simp; done) | (simp; omega)) _ | refine Below.setCell ?_ (by first | omega | (simp; done) | (simp; omega)) _ | refine Below.trans ?_ (Below.mono (by assumption) (by first | omega | (simp; done) | (simp; omega)))))⟩

theorem measureAt_any (a : Option Addr) (l : List (Int × Int)) (hl : l.length ≤ 1048576) {w : World} (ha : PairsAt w a l) (c : Int) (h9 : c ≤ 9223372036854775807) :
    Calls Try.prog 22 #[.slice a l.length l.length, .int .i64 c] w fun e w' => e = .returned (.tuple #[.int .i64 (guardI (hasC l c) (atM l c)), .int .i64 (guardI (hasC l c) (c - cn l (atM l c))), .bool (hasC l c)]) ∧ Below w.heap.size w w' := by
  cases hm : musOk l
  · have e : hasC l c = false := by unfold hasC; rw [hm]; rfl
    rw [e]
    exact measureAt_bad a l hl ha c hm
  · by_cases h0 : 0 ≤ c
    · by_cases hn : c < total l
      · have e : hasC l c = true := hasC_iff.2 ⟨hm, h0, hn⟩
        rw [e]
        exact measureAt_yes a l hm ha c h0 h9 hn
      · have e : hasC l c = false := by
          rw [← Bool.not_eq_true, hasC_iff]
          exact fun h => hn h.2.2
        rw [e]
        exact measureAt_far a l hm ha c h0 h9 hn
    · have e : hasC l c = false := by
        rw [← Bool.not_eq_true, hasC_iff]
        exact fun h => h0 h.2.1
      rw [e]
      exact measureAt_neg a l hm ha c (by omega)

set_option maxHeartbeats 1000000 in
theorem timeOf_bad (a : Option Addr) (l : List (Int × Int)) (hl : l.length ≤ 1048576) {w : World} (ha : PairsAt w a l) (c : Int) (hg : musOk l = false) :
    Calls Try.prog 24 #[.slice a l.length l.length, .int .i64 c] w fun e w' => e = .returned (.tuple #[.int .i64 0, .bool false]) ∧ Below w.heap.size w w' := by
  have HG := Lib.hid (fun (W : World) (hb : Below w.heap.size w W) => isMusic_any a l.length l hl (ha.below hb))
  skip
  all_goals
    go_enter Try.func24, Try.ntmps24
    go_wp2_with (first | (go_at_call 17; (refine (HG.out _ (by repeat (first | exact Below.refl _ _ | assumption | refine Below.drew ?_ | refine below_drewN ?_ _ | refine Below.alloc ?_ (by first | omega | (simp; done) | (simp; omega)) _ | refine Below.setCell ?_ (by first | omega | (simp; done) | (simp; omega)) _ | refine Below.trans ?_ (Below.mono (by assumption) (by first | omega | (simp; done) | (simp; omega)))))).mono ?_; rintro e w1 ⟨rfl, hb1⟩; have hs1 := hb1.size)))
    go_ret2
    exact ⟨rfl, (by repeat (first | exact Below.refl _ _ | assumption | refine Below.drew ?_ | refine below_drewN ?_ _ | refine Below.alloc ?_ (by first | omega | (simp; done) | (simp; omega)) _ | refine Below.setCell ?_ (by first | omega | (simp; done) | (simp; omega)) _ | refine Below.trans ?_ (Below.mono (by assumption) (by first | omega | (simp; done) | (simp; omega)))))⟩

set_option maxHeartbeats 1000000 in
theorem timeOf_no (a : Option Addr) (l : List (Int × Int)) (hm : musOk l = true) {w : World} (ha : PairsAt w a l) (c : Int) (hg : inB 0 c (total l) = false) :
    Calls Try.prog 24 #[.slice a l.length l.length, .int .i64 c] w fun e w' => e = .returned (.tuple #[.int .i64 0, .bool false]) ∧ Below w.heap.size w w' := by
  have hl : l.length ≤ 1048576 := by have := (musOk_len hm).2; omega
  obtain ⟨b1, b2⟩ := total_bound hm
  have HG := Lib.hid (fun (W : World) (hb : Below w.heap.size w W) => isMusic_any a l.length l hl (ha.below hb))
  have HC := Lib.hid (fun (W : World) (hb : Below w.heap.size w W) => sumOfCounts_any a l.length l hm (ha.below hb))
  skip
  all_goals
    go_enter Try.func24, Try.ntmps24
    go_wp2_with (first | (go_at_call 17; (refine (HG.out _ (by repeat (first | exact Below.refl _ _ | assumption | refine Below.drew ?_ | refine below_drewN ?_ _ | refine Below.alloc ?_ (by first | omega | (simp; done) | (simp; omega)) _ | refine Below.setCell ?_ (by first | omega | (simp; done) | (simp; omega)) _ | refine Below.trans ?_ (Below.mono (by assumption) (by first | omega | (simp; done) | (simp; omega)))))).mono ?_; rintro e w1 ⟨rfl, hb1⟩; have hs1 := hb1.size)) | (go_at_call 46; (refine (HC.out _ (by repeat (first | exact Below.refl _ _ | assumption | refine Below.drew ?_ | refine below_drewN ?_ _ | refine Below.alloc ?_ (by first | omega | (simp; done) | (simp; omega)) _ | refine Below.setCell ?_ (by first | omega | (simp; done) | (simp; omega)) _ | refine Below.trans ?_ (Below.mono (by assumption) (by first | omega | (simp; done) | (simp; omega)))))).mono ?_; rintro e w1 ⟨rfl, hb1⟩; have hs1 := hb1.size)) | (go_at_call 43; (refine (inRange_any _ _ _ _).mono ?_; rintro e w' ⟨rfl, rfl⟩)))
    go_ret2
    exact ⟨rfl, (by repeat (first | exact Below.refl _ _ | assumption | refine Below.drew ?_ | refine below_drewN ?_ _ | refine Below.alloc ?_ (by first | omega | (simp; done) | (simp; omega)) _ | refine Below.setCell ?_ (by first | omega | (simp; done) | (simp; omega)) _ | refine Below.trans ?_ (Below.mono (by assumption) (by first | omega | (simp; done) | (simp; omega)))))⟩

set_option maxHeartbeats 1000000 in
theorem timeOf_yes (a : Option Addr) (l : List (Int × Int)) (hm : musOk l = true) {w : World} (ha : PairsAt w a l) (c : Int) (hg : inB 0 c (total l) = true) :
    Calls Try.prog 24 #[.slice a l.length l.length, .int .i64 c] w fun e w' => e = .returned (.tuple #[.int .i64 (timeM l c), .bool true]) ∧ Below w.heap.size w w' := by
  have hl : l.length ≤ 1048576 := by have := (musOk_len hm).2; omega
  obtain ⟨b1, b2⟩ := total_bound hm
  obtain ⟨h0, h1⟩ := inB_iff.1 hg
  have HG := Lib.hid (fun (W : World) (hb : Below w.heap.size w W) => isMusic_any a l.length l hl (ha.below hb))
  have HC := Lib.hid (fun (W : World) (hb : Below w.heap.size w W) => sumOfCounts_any a l.length l hm (ha.below hb))
  have HB := Lib.hid (fun (W : World) (hb : Below w.heap.size w W) => beginOfCount_any a l.length l hm (ha.below hb) (Nat.le_refl _) c h0 h1)
  skip
  all_goals
    go_enter Try.func24, Try.ntmps24
    go_wp2_with (first | (go_at_call 17; (refine (HG.out _ (by repeat (first | exact Below.refl _ _ | assumption | refine Below.drew ?_ | refine below_drewN ?_ _ | refine Below.alloc ?_ (by first | omega | (simp; done) | (simp; omega)) _ | refine Below.setCell ?_ (by first | omega | (simp; done) | (simp; omega)) _ | refine Below.trans ?_ (Below.mono (by assumption) (by first | omega | (simp; done) | (simp; omega)))))).mono ?_; rintro e w1 ⟨rfl, hb1⟩; have hs1 := hb1.size)) | (go_at_call 46; (refine (HC.out _ (by repeat (first | exact Below.refl _ _ | assumption | refine Below.drew ?_ | refine below_drewN ?_ _ | refine Below.alloc ?_ (by first | omega | (simp; done) | (simp; omega)) _ | refine Below.setCell ?_ (by first | omega | (simp; done) | (simp; omega)) _ | refine Below.trans ?_ (Below.mono (by assumption) (by first | omega | (simp; done) | (simp; omega)))))).mono ?_; rintro e w1 ⟨rfl, hb1⟩; have hs1 := hb1.size)) | (go_at_call 43; (refine (inRange_any _ _ _ _).mono ?_; rintro e w' ⟨rfl, rfl⟩)) | (go_at_call 52; ((with_reducible refine (HB.out _ (by repeat (first | exact Below.refl _ _ | assumption | refine Below.drew ?_ | refine below_drewN ?_ _ | refine Below.alloc ?_ (by first | omega | (simp; done) | (simp; omega)) _ | refine Below.setCell ?_ (by first | omega | (simp; done) | (simp; omega)) _ | refine Below.trans ?_ (Below.mono (by assumption) (by first | omega | (simp; done) | (simp; omega)))))).mono ?_); rintro e w1 ⟨rfl, hb1⟩; have hs1 := hb1.size)))
    go_ret2
    exact ⟨rfl, (by repeat (first | exact Below.refl _ _ | assumption | refine Below.drew ?_ | refine below_drewN ?_ _ | refine Below.alloc ?_ (by first | omega | (simp; done) | (simp; omega)) _ | refine Below.setCell ?_ (by first | omega | (simp; done) | (simp; omega)) _ | refine Below.trans ?_ (Below.mono (by assumption) (by first | omega | (simp; done) | (simp; omega)))))⟩

theorem timeOf_any (a : Option Addr) (l : List (Int × Int)) (hl : l.length ≤ 1048576) {w : World} (ha : PairsAt w a l) (c : Int) :
    Calls Try.prog 24 #[.slice a l.length l.length, .int .i64 c] w fun e w' => e = .returned (.tuple #[.int .i64 (guardI (upTo l c) (timeM l c)), .bool (upTo l c)]) ∧ Below w.heap.size w w' := by
  cases hm : musOk l
  · have e : upTo l c = false := by unfold upTo; rw [hm]; rfl
    rw [e]
    exact timeOf_bad a l hl ha c hm
  · cases hg : inB 0 c (total l)
    · have e : upTo l c = false := by unfold upTo; rw [hg, Bool.and_false]
      rw [e]
      exact timeOf_no a l hm ha c hg
    · have e : upTo l c = true := by unfold upTo; rw [hm, hg]; rfl
      rw [e]
      exact timeOf_yes a l hm ha c hg

set_option maxHeartbeats 1000000 in
theorem lastsFrom_bad (a : Option Addr) (l : List (Int × Int)) (hl : l.length ≤ 1048576) {w : World} (ha : PairsAt w a l) (c d : Int) (hg : musOk l = false) :
    Calls Try.prog 28 #[.slice a l.length l.length, .int .i64 c, .int .i64 d] w fun e w' => e = .returned (.tuple #[.int .i64 0, .bool false]) ∧ Below w.heap.size w w' := by
  have HG := Lib.hid (fun (W : World) (hb : Below w.heap.size w W) => isMusic_any a l.length l hl (ha.below hb))
  skip
  all_goals
    go_enter Try.func28, Try.ntmps28
    go_wp2_with (first | (go_at_call 17; (refine (HG.out _ (by repeat (first | exact Below.refl _ _ | assumption | refine Below.drew ?_ | refine below_drewN ?_ _ | refine Below.alloc ?_ (by first | omega | (simp; done) | (simp; omega)) _ | refine Below.setCell ?_ (by first | omega | (simp; done) | (simp; omega)) _ | refine Below.trans ?_ (Below.mono (by assumption) (by first | omega | (simp; done) | (simp; omega)))))).mono ?_; rintro e w1 ⟨rfl, hb1⟩; have hs1 := hb1.size)))
    go_ret2
    exact ⟨rfl, (by repeat (first | exact Below.refl _ _ | assumption | refine Below.drew ?_ | refine below_drewN ?_ _ | refine Below.alloc ?_ (by first | omega | (simp; done) | (simp; omega)) _ | refine Below.setCell ?_ (by first | omega | (simp; done) | (simp; omega)) _ | refine Below.trans ?_ (Below.mono (by assumption) (by first | omega | (simp; done) | (simp; omega)))))⟩

set_option maxHeartbeats 1000000 in
theorem lastsFrom_no (a : Option Addr) (l : List (Int × Int)) (hm : musOk l = true) {w : World} (ha : PairsAt w a l) (c d : Int) (hg : spanB c d (total l) = false) :
    Calls Try.prog 28 #[.slice a l.length l.length, .int .i64 c, .int .i64 d] w fun e w' => e = .returned (.tuple #[.int .i64 0, .bool false]) ∧ Below w.heap.size w w' := by
  have hl : l.length ≤ 1048576 := by have := (musOk_len hm).2; omega
  obtain ⟨b1, b2⟩ := total_bound hm
  have HG := Lib.hid (fun (W : World) (hb : Below w.heap.size w W) => isMusic_any a l.length l hl (ha.below hb))
  have HC := Lib.hid (fun (W : World) (hb : Below w.heap.size w W) => sumOfCounts_any a l.length l hm (ha.below hb))
  skip
  all_goals
    go_enter Try.func28, Try.ntmps28
    go_wp2_with (first | (go_at_call 17; (refine (HG.out _ (by repeat (first | exact Below.refl _ _ | assumption | refine Below.drew ?_ | refine below_drewN ?_ _ | refine Below.alloc ?_ (by first | omega | (simp; done) | (simp; omega)) _ | refine Below.setCell ?_ (by first | omega | (simp; done) | (simp; omega)) _ | refine Below.trans ?_ (Below.mono (by assumption) (by first | omega | (simp; done) | (simp; omega)))))).mono ?_; rintro e w1 ⟨rfl, hb1⟩; have hs1 := hb1.size)) | (go_at_call 46; (refine (HC.out _ (by repeat (first | exact Below.refl _ _ | assumption | refine Below.drew ?_ | refine below_drewN ?_ _ | refine Below.alloc ?_ (by first | omega | (simp; done) | (simp; omega)) _ | refine Below.setCell ?_ (by first | omega | (simp; done) | (simp; omega)) _ | refine Below.trans ?_ (Below.mono (by assumption) (by first | omega | (simp; done) | (simp; omega)))))).mono ?_; rintro e w1 ⟨rfl, hb1⟩; have hs1 := hb1.size)) | (go_at_call 56; (refine (isSpan_any _ _ _ _).mono ?_; rintro e w' ⟨rfl, rfl⟩)))
    go_ret2
    exact ⟨rfl, (by repeat (first | exact Below.refl _ _ | assumption | refine Below.drew ?_ | refine below_drewN ?_ _ | refine Below.alloc ?_ (by first | omega | (simp; done) | (simp; omega)) _ | refine Below.setCell ?_ (by first | omega | (simp; done) | (simp; omega)) _ | refine Below.trans ?_ (Below.mono (by assumption) (by first | omega | (simp; done) | (simp; omega)))))⟩

set_option maxHeartbeats 1000000 in
theorem lastsFrom_yes (a : Option Addr) (l : List (Int × Int)) (hm : musOk l = true) {w : World} (ha : PairsAt w a l) (c d : Int) (hg : spanB c d (total l) = true) :
    Calls Try.prog 28 #[.slice a l.length l.length, .int .i64 c, .int .i64 d] w fun e w' => e = .returned (.tuple #[.int .i64 (timeM l d - timeM l c), .bool true]) ∧ Below w.heap.size w w' := by
  have hl : l.length ≤ 1048576 := by have := (musOk_len hm).2; omega
  obtain ⟨b1, b2⟩ := total_bound hm
  obtain ⟨h0, h1, h2⟩ := spanB_iff.1 hg
  obtain ⟨x1, x2⟩ := time_bound hm (c := c) h0
  obtain ⟨x3, x4⟩ := time_bound hm (c := d) (by omega)
  have v1 : IntKind.i64.wrap (timeM l d - timeM l c) = timeM l d - timeM l c := IntWalk.i64_in _ (by omega)
  have HG := Lib.hid (fun (W : World) (hb : Below w.heap.size w W) => isMusic_any a l.length l hl (ha.below hb))
  have HC := Lib.hid (fun (W : World) (hb : Below w.heap.size w W) => sumOfCounts_any a l.length l hm (ha.below hb))
  have HB := Lib.hid (fun (W : World) (hb : Below w.heap.size w W) => beginOfCount_any a l.length l hm (ha.below hb) (Nat.le_refl _) c h0 (by omega))
  have HD := Lib.hid (fun (W : World) (hb : Below w.heap.size w W) => beginOfCount_any a l.length l hm (ha.below hb) (Nat.le_refl _) d (by omega) h2)
  skip
  all_goals
    go_enter Try.func28, Try.ntmps28
    go_wp2_with (first | (go_at_call 17; (refine (HG.out _ (by repeat (first | exact Below.refl _ _ | assumption | refine Below.drew ?_ | refine below_drewN ?_ _ | refine Below.alloc ?_ (by first | omega | (simp; done) | (simp; omega)) _ | refine Below.setCell ?_ (by first | omega | (simp; done) | (simp; omega)) _ | refine Below.trans ?_ (Below.mono (by assumption) (by first | omega | (simp; done) | (simp; omega)))))).mono ?_; rintro e w1 ⟨rfl, hb1⟩; have hs1 := hb1.size)) | (go_at_call 46; (refine (HC.out _ (by repeat (first | exact Below.refl _ _ | assumption | refine Below.drew ?_ | refine below_drewN ?_ _ | refine Below.alloc ?_ (by first | omega | (simp; done) | (simp; omega)) _ | refine Below.setCell ?_ (by first | omega | (simp; done) | (simp; omega)) _ | refine Below.trans ?_ (Below.mono (by assumption) (by first | omega | (simp; done) | (simp; omega)))))).mono ?_; rintro e w1 ⟨rfl, hb1⟩; have hs1 := hb1.size)) | (go_at_call 56; (refine (isSpan_any _ _ _ _).mono ?_; rintro e w' ⟨rfl, rfl⟩)) | (go_at_call 52; ((with_reducible refine (HB.out _ (by repeat (first | exact Below.refl _ _ | assumption | refine Below.drew ?_ | refine below_drewN ?_ _ | refine Below.alloc ?_ (by first | omega | (simp; done) | (simp; omega)) _ | refine Below.setCell ?_ (by first | omega | (simp; done) | (simp; omega)) _ | refine Below.trans ?_ (Below.mono (by assumption) (by first | omega | (simp; done) | (simp; omega)))))).mono ?_); rintro e w1 ⟨rfl, hb1⟩; have hs1 := hb1.size)) | (go_at_call 52; ((with_reducible refine (HD.out _ (by repeat (first | exact Below.refl _ _ | assumption | refine Below.drew ?_ | refine below_drewN ?_ _ | refine Below.alloc ?_ (by first | omega | (simp; done) | (simp; omega)) _ | refine Below.setCell ?_ (by first | omega | (simp; done) | (simp; omega)) _ | refine Below.trans ?_ (Below.mono (by assumption) (by first | omega | (simp; done) | (simp; omega)))))).mono ?_); rintro e w1 ⟨rfl, hb1⟩; have hs1 := hb1.size)))
    go_ret2
    exact ⟨rfl, (by repeat (first | exact Below.refl _ _ | assumption | refine Below.drew ?_ | refine below_drewN ?_ _ | refine Below.alloc ?_ (by first | omega | (simp; done) | (simp; omega)) _ | refine Below.setCell ?_ (by first | omega | (simp; done) | (simp; omega)) _ | refine Below.trans ?_ (Below.mono (by assumption) (by first | omega | (simp; done) | (simp; omega)))))⟩

theorem canLast_span {l : List (Int × Int)} {c d : Int} (hm : musOk l = true) : canLast l c d = spanB c d (total l) := by
  rw [Bool.eq_iff_iff, canLast_iff, upTo_iff, upTo_iff, spanB_iff]
  constructor
  · rintro ⟨⟨_, h1, h2⟩, ⟨_, h3, h4⟩, h5⟩
    exact ⟨h1, h5, h4⟩
  · rintro ⟨h1, h2, h3⟩
    exact ⟨⟨hm, h1, by omega⟩, ⟨hm, by omega, h3⟩, h2⟩

theorem lastsFrom_any (a : Option Addr) (l : List (Int × Int)) (hl : l.length ≤ 1048576) {w : World} (ha : PairsAt w a l) (c d : Int) :
    Calls Try.prog 28 #[.slice a l.length l.length, .int .i64 c, .int .i64 d] w fun e w' => e = .returned (.tuple #[.int .i64 (guardI (canLast l c d) (timeM l d - timeM l c)), .bool (canLast l c d)]) ∧ Below w.heap.size w w' := by
  cases hm : musOk l
  · have e : canLast l c d = false := by unfold canLast upTo; rw [hm]; rfl
    rw [e]
    exact lastsFrom_bad a l hl ha c d hm
  · rw [canLast_span hm]
    cases hg : spanB c d (total l)
    · exact lastsFrom_no a l hm ha c d hg
    · exact lastsFrom_yes a l hm ha c d hg

set_option maxHeartbeats 1000000 in
theorem fastest_no (a : Option Addr) (l : List (Int × Int)) (hl : l.length ≤ 1048576) {w : World} (ha : PairsAt w a l) (hm : musOk l = false) :
    Calls Try.prog 36 #[.slice a l.length l.length] w fun e w' => e = .returned (.tuple #[.int .i64 0, .bool false]) ∧ Below w.heap.size w w' := by
  have HG := Lib.hid (fun (W : World) (hb : Below w.heap.size w W) => isMusic_any a l.length l hl (ha.below hb))
  skip
  all_goals
    go_enter Try.func36, Try.ntmps36
    go_wp2_with (first | (go_at_call 17; (refine (HG.out _ (by repeat (first | exact Below.refl _ _ | assumption | refine Below.drew ?_ | refine below_drewN ?_ _ | refine Below.alloc ?_ (by first | omega | (simp; done) | (simp; omega)) _ | refine Below.setCell ?_ (by first | omega | (simp; done) | (simp; omega)) _ | refine Below.trans ?_ (Below.mono (by assumption) (by first | omega | (simp; done) | (simp; omega)))))).mono ?_; rintro e w1 ⟨rfl, hb1⟩; have hs1 := hb1.size)))
    go_ret2
    exact ⟨rfl, (by repeat (first | exact Below.refl _ _ | assumption | refine Below.drew ?_ | refine below_drewN ?_ _ | refine Below.alloc ?_ (by first | omega | (simp; done) | (simp; omega)) _ | refine Below.setCell ?_ (by first | omega | (simp; done) | (simp; omega)) _ | refine Below.trans ?_ (Below.mono (by assumption) (by first | omega | (simp; done) | (simp; omega)))))⟩

set_option maxHeartbeats 1000000 in
theorem fastest_yes (a : Option Addr) (l : List (Int × Int)) (hm : musOk l = true) {w : World} (ha : PairsAt w a l) :
    Calls Try.prog 36 #[.slice a l.length l.length] w fun e w' => e = .returned (.tuple #[.int .i64 (fst l l.length : Nat), .bool true]) ∧ Below w.heap.size w w' := by
  obtain ⟨n1, n2⟩ := musOk_len hm
  have hl : l.length ≤ 1048576 := by omega
  have HG := Lib.hid (fun (W : World) (hb : Below w.heap.size w W) => isMusic_any a l.length l hl (ha.below hb))
  go_enter Try.func36, Try.ntmps36
  go_wp2_with (first | (go_at_call 17; (refine (HG.out _ (by repeat (first | exact Below.refl _ _ | assumption | refine Below.drew ?_ | refine below_drewN ?_ _ | refine Below.alloc ?_ (by first | omega | (simp; done) | (simp; omega)) _ | refine Below.setCell ?_ (by first | omega | (simp; done) | (simp; omega)) _ | refine Below.trans ?_ (Below.mono (by assumption) (by first | omega | (simp; done) | (simp; omega)))))).mono ?_; rintro e w1 ⟨rfl, hb1⟩; have hs1 := hb1.size)))
  go_loopw [4, 12] (fun bst i wr => ∃ k : Nat, k ≤ l.length ∧ i = .int .i64 k ∧ bst = .int .i64 (fst l k : Nat) ∧ Below w.heap.size w wr) (fun _ i _ => l.length - (intOf i).toNat)
  case atStart => exact ⟨0, Nat.zero_le _, rfl, rfl, (by repeat (first | exact Below.refl _ _ | assumption | refine Below.drew ?_ | refine below_drewN ?_ _ | refine Below.alloc ?_ (by first | omega | (simp; done) | (simp; omega)) _ | refine Below.setCell ?_ (by first | omega | (simp; done) | (simp; omega)) _ | refine Below.trans ?_ (Below.mono (by assumption) (by first | omega | (simp; done) | (simp; omega)))))⟩
  case round =>
    obtain ⟨k, hk, rfl, rfl, hbr⟩ := hrel
    have hsr := hbr.size
    (repeat clear hl1); (repeat clear hl2); (repeat clear hl3); (repeat clear hl4); (repeat clear hk1); (repeat clear hk2); (repeat clear hk3); (repeat clear hk4); (repeat clear hcn); (repeat clear hfn); (repeat clear hln); (repeat clear hz0); (repeat clear hz1); (repeat clear hz2); (repeat clear hs1); (repeat clear hb1)
    have hmx := fst_lt l (by omega) k hk
    by_cases hlt : k < l.length
    · obtain ⟨b, off, rfl, c2, c3⟩ := (ha.below hbr) k hlt
      obtain ⟨b', off', hbb, c4, c5⟩ := (ha.below hbr) _ hmx
      simp only [Option.some.injEq, Addr.mk.injEq] at hbb
      obtain ⟨hb1', hb2', _⟩ := hbb
      subst hb1' hb2'
      have i0 : (0 : Int) ≤ (fst l k : Int) := by omega
      have i1 : (fst l k : Int) < (l.length : Int) := by omega
      have n4 := World.new_ne wr _ c4
      have lb := World.block_lt_of_cell? wr _ c4
      have lb' : b ≠ wr.heap.size := Nat.ne_of_lt lb
      by_cases hc : sy l (fst l k) < sy l k
      · have hnb := fst_yes hc
        have Hnb := Lib.hid hnb
        clear hnb
        go_wp2
        go_quiet (fail)
        go_wp2
        go_roundw
        case rel => exact ⟨k + 1, by omega, by go_num, by rw [Hnb.out], (by repeat (first | exact Below.refl _ _ | assumption | refine Below.drew ?_ | refine below_drewN ?_ _ | refine Below.alloc ?_ (by first | omega | (simp; done) | (simp; omega)) _ | refine Below.setCell ?_ (by first | omega | (simp; done) | (simp; omega)) _ | refine Below.trans ?_ (Below.mono (by assumption) (by first | omega | (simp; done) | (simp; omega)))))⟩
        case measure => simp [intOf]; omega
      · have hnb := fst_no hc
        have Hnb := Lib.hid hnb
        clear hnb
        go_wp2
        go_quiet (fail)
        go_wp2
        go_roundw
        case rel => exact ⟨k + 1, by omega, by go_num, by rw [Hnb.out], (by repeat (first | exact Below.refl _ _ | assumption | refine Below.drew ?_ | refine below_drewN ?_ _ | refine Below.alloc ?_ (by first | omega | (simp; done) | (simp; omega)) _ | refine Below.setCell ?_ (by first | omega | (simp; done) | (simp; omega)) _ | refine Below.trans ?_ (Below.mono (by assumption) (by first | omega | (simp; done) | (simp; omega)))))⟩
        case measure => simp [intOf]; omega
    · obtain rfl : k = l.length := by omega
      go_wp2
      go_ret2
      exact ⟨rfl, (by repeat (first | exact Below.refl _ _ | assumption | refine Below.drew ?_ | refine below_drewN ?_ _ | refine Below.alloc ?_ (by first | omega | (simp; done) | (simp; omega)) _ | refine Below.setCell ?_ (by first | omega | (simp; done) | (simp; omega)) _ | refine Below.trans ?_ (Below.mono (by assumption) (by first | omega | (simp; done) | (simp; omega)))))⟩
theorem fastest_any (a : Option Addr) (l : List (Int × Int)) (hl : l.length ≤ 1048576) {w : World} (ha : PairsAt w a l) :
    Calls Try.prog 36 #[.slice a l.length l.length] w fun e w' => e = .returned (.tuple #[.int .i64 (guardI (musOk l) (fst l l.length : Nat)), .bool (musOk l)]) ∧ Below w.heap.size w w' := by
  cases hm : musOk l
  · exact fastest_no a l hl ha hm
  · exact fastest_yes a l hm ha

set_option maxHeartbeats 1000000 in
theorem tempoFor_no (c t : Int) (hg : (inB 1 c 12 && inB 0 t 20000) = false) (w : World) :
    Calls Try.prog 38 #[.int .i64 c, .int .i64 t] w fun e w' => e = .returned (.tuple #[.int .i64 0, .bool false]) ∧ Below w.heap.size w w' := by
  cases h1 : inB 1 c 12 <;> cases h2 : inB 0 t 20000
  all_goals first | (exfalso; rw [h1, h2] at hg; cases hg; done) | clear hg
  all_goals
    go_enter Try.func38, Try.ntmps38
    go_wp2_with (first | (go_at_call 43; (refine (inRange_any _ _ _ _).mono ?_; rintro e w' ⟨rfl, rfl⟩)))
    go_ret2
    exact ⟨rfl, (by repeat (first | exact Below.refl _ _ | assumption | refine Below.drew ?_ | refine below_drewN ?_ _ | refine Below.alloc ?_ (by first | omega | (simp; done) | (simp; omega)) _ | refine Below.setCell ?_ (by first | omega | (simp; done) | (simp; omega)) _ | refine Below.trans ?_ (Below.mono (by assumption) (by first | omega | (simp; done) | (simp; omega)))))⟩
set_option maxHeartbeats 1000000 in
theorem tempoFor_yes (c t : Int) (h1 : inB 1 c 12 = true) (h2 : inB 0 t 20000 = true) (w : World) :
    Calls Try.prog 38 #[.int .i64 c, .int .i64 t] w fun e w' => e = .returned (.tuple #[.int .i64 (tempoM c t), .bool (hasT c t)]) ∧ Below w.heap.size w w' := by
  obtain ⟨c1, c2⟩ := inB_iff.1 h1
  obtain ⟨t1, t2⟩ := inB_iff.1 h2
  have htm : tempoM c t = tpo c t 181 := by unfold tempoM; rw [h1, h2]; rfl
  have hht : hasT c t = decide (tpo c t 181 ≠ 0) := by unfold hasT; rw [htm]
  have Htm := Lib.hid htm
  have Hht := Lib.hid hht
  clear htm hht
  go_enter Try.func38, Try.ntmps38
  go_wp2_with (first | (go_at_call 43; (refine (inRange_any _ _ _ _).mono ?_; rintro e w' ⟨rfl, rfl⟩)))
  go_loopw [6] (fun i wr => ∃ k : Nat, k ≤ 181 ∧ i = .int .i64 (39 + (k : Int)) ∧ Hid (tpo c t 181 = tpo c t k) ∧ Below w.heap.size w wr) (fun i _ => (intOf i).toNat)
  case atStart => exact ⟨181, by omega, rfl, Lib.hid rfl, (by repeat (first | exact Below.refl _ _ | assumption | refine Below.drew ?_ | refine below_drewN ?_ _ | refine Below.alloc ?_ (by first | omega | (simp; done) | (simp; omega)) _ | refine Below.setCell ?_ (by first | omega | (simp; done) | (simp; omega)) _ | refine Below.trans ?_ (Below.mono (by assumption) (by first | omega | (simp; done) | (simp; omega)))))⟩
  case round =>
    obtain ⟨k, hk, rfl, hacc, hbr⟩ := hrel
    have hsr := hbr.size
    (repeat clear hl1); (repeat clear hl2); (repeat clear hl3); (repeat clear hl4); (repeat clear hk1); (repeat clear hk2); (repeat clear hk3); (repeat clear hk4); (repeat clear hcn); (repeat clear hfn); (repeat clear hln); (repeat clear hz0); (repeat clear hz1); (repeat clear hz2); (repeat clear hs1); (repeat clear hb1)
    cases k with
    | zero =>
      have e0 : tpo c t 181 = 0 := hacc.out
      have E0 := Lib.hid e0
      clear e0
      go_wp2
      go_ret2
      exact ⟨by rw [Htm.out, Hht.out, E0.out]; rfl, (by repeat (first | exact Below.refl _ _ | assumption | refine Below.drew ?_ | refine below_drewN ?_ _ | refine Below.alloc ?_ (by first | omega | (simp; done) | (simp; omega)) _ | refine Below.setCell ?_ (by first | omega | (simp; done) | (simp; omega)) _ | refine Below.trans ?_ (Below.mono (by assumption) (by first | omega | (simp; done) | (simp; omega)))))⟩
    | succ m =>
      have v1 : 39 + ((m + 1 : Nat) : Int) = 40 + (m : Int) := by omega
      rw [v1]
      have v2 : IntKind.i64.wrap (40 + (m : Int) - 1) = 39 + (m : Int) := by rw [IntWalk.i64_in _ (by omega)]; omega
      have v3 : (40 : Int) ≤ 40 + (m : Int) := by omega
      by_cases hn : t ≤ lst c (40 + (m : Int))
      · have e0 : tpo c t 181 = 40 + (m : Int) := hacc.out.trans (tpo_yes hn)
        have e1 : hasT c t = true := by rw [Hht.out, e0]; exact decide_eq_true (by omega)
        have E0 := Lib.hid e0
        have E1 := Lib.hid e1
        clear e0 e1 v1
        go_wp2_with (go_at_call 62; (refine (countsLast_any _ _ (by omega) (by omega) (by omega) (by omega) _).mono ?_; rintro e w' ⟨rfl, rfl⟩))
        go_ret2
        exact ⟨by rw [Htm.out, E1.out, E0.out]; rfl, (by repeat (first | exact Below.refl _ _ | assumption | refine Below.drew ?_ | refine below_drewN ?_ _ | refine Below.alloc ?_ (by first | omega | (simp; done) | (simp; omega)) _ | refine Below.setCell ?_ (by first | omega | (simp; done) | (simp; omega)) _ | refine Below.trans ?_ (Below.mono (by assumption) (by first | omega | (simp; done) | (simp; omega)))))⟩
      · have e0 := Lib.hid (hacc.out.trans (tpo_no hn))
        clear v1
        go_wp2_with (go_at_call 62; (refine (countsLast_any _ _ (by omega) (by omega) (by omega) (by omega) _).mono ?_; rintro e w' ⟨rfl, rfl⟩))
        go_roundw
        case rel => exact ⟨m, by omega, by first | rfl | go_num, e0, (by repeat (first | exact Below.refl _ _ | assumption | refine Below.drew ?_ | refine below_drewN ?_ _ | refine Below.alloc ?_ (by first | omega | (simp; done) | (simp; omega)) _ | refine Below.setCell ?_ (by first | omega | (simp; done) | (simp; omega)) _ | refine Below.trans ?_ (Below.mono (by assumption) (by first | omega | (simp; done) | (simp; omega)))))⟩
        case measure => simp [intOf]; omega
theorem tempoFor_any (c t : Int) (w : World) :
    Calls Try.prog 38 #[.int .i64 c, .int .i64 t] w fun e w' => e = .returned (.tuple #[.int .i64 (tempoM c t), .bool (hasT c t)]) ∧ Below w.heap.size w w' := by
  cases hg : inB 1 c 12 && inB 0 t 20000
  · have e : tempoM c t = 0 := by unfold tempoM; rw [hg]; rfl
    have e2 : hasT c t = false := by unfold hasT; rw [e]; rfl
    rw [e, e2]
    exact tempoFor_no c t hg w
  · rw [Bool.and_eq_true] at hg
    exact tempoFor_yes c t hg.1 hg.2 w

end Go.Proofs.Ytbpphcdhbbhjpaa
