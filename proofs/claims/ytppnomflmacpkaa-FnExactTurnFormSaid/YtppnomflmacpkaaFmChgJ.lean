/- Spread and turned forms, the program's side. No conditions but those written in each theorem. -/
import Derived.Test.YtppnomflmacpkaaFmChgI
import Derived.Deep.RegionHeld3
import Derived.Deep.DrawnRows
import Derived.IntWalk
import Derived.Laws.AppendOwn
import Derived.Deep.AppendLies
namespace Go.Proofs.Ytppnomflmacpkaa
open Go.RowKit


attribute [local go_sem ↓] Go.wp_at_zero Go.wp_at_succ

set_option maxHeartbeats 1000000 in
theorem spread_no (a : Option Addr) (cap : Nat) (l : List (Int × Int)) (hl : l.length ≤ 1048576) {w : World} (ha : PairsAt w a l) (p : Int) (hin : inB 1 p 400 = true) (hv : chOk l = false) :
    Calls Try.prog 28 #[.slice a l.length cap, .int .i64 p] w fun e w' => e = .returned (.tuple #[.slice none 0 0, .bool false]) ∧ Below w.heap.size w w' := by
  have H1 := Lib.hid hin
  have HF := Lib.hid (fun (W : World) (hb : Below w.heap.size w W) => chgS_no a cap l hl (ha.below hb) p w.heap.size hv)
  clear hin hv
  go_enter Try.func28, Try.ntmps28
  go_wp2_with (first | (go_at_call 35; (refine (inRange_any _ _ _ _).mono ?_; rw [H1.out]; rintro e w' ⟨rfl, rfl⟩)) | (go_at_call 56; (refine (HF.out _ (by repeat (first | exact Below.refl _ _ | assumption | refine Below.drew ?_ | refine below_drewN ?_ _ | refine Below.alloc ?_ (by first | omega | (simp; done) | (simp; omega)) _ | refine Below.setCell ?_ (by first | omega | (simp; done) | (simp; omega)) _ | refine Below.trans ?_ (Below.mono (by assumption) (by first | omega | (simp; done) | (simp; omega)))))).mono ?_; rintro e w1 ⟨rfl, hb1⟩; have hs1 := hb1.size)))
  go_ret2
  exact ⟨rfl, (by repeat (first | exact Below.refl _ _ | assumption | refine Below.drew ?_ | refine below_drewN ?_ _ | refine Below.alloc ?_ (by first | omega | (simp; done) | (simp; omega)) _ | refine Below.setCell ?_ (by first | omega | (simp; done) | (simp; omega)) _ | refine Below.trans ?_ (Below.mono (by assumption) (by first | omega | (simp; done) | (simp; omega)))))⟩
set_option maxHeartbeats 1000000 in
theorem spread_yes (a : Option Addr) (cap : Nat) (l : List (Int × Int)) (hl : l.length ≤ 1048576) {w : World} (ha : PairsAt w a l) (p : Int) (hin : inB 1 p 400 = true) (hv : chOk l = true) :
    Calls Try.prog 28 #[.slice a l.length cap, .int .i64 p] w fun e w' => ∃ v, e = .returned (.tuple #[v, .bool (chOk (chgTo (sprG p) l l.length))]) ∧ OwnPairs 24 w' w.heap.size v (chIf (chgTo (sprG p) l l.length)) ∧ Below w.heap.size w w' := by
  have H1 := Lib.hid hin
  obtain ⟨i1, i2⟩ := inB_iff.1 hin
  have HF := Lib.hid (fun (W : World) (hb : Below w.heap.size w W) (hc : W.cell? ⟨w.heap.size, 0, none⟩ = some (.int .i64 p)) => chgS_yes a cap l hl (ha.below hb) p w.heap.size i1 i2 hc hv)
  have hc0 : (w.alloc (.cells #[.int .i64 p] 3)).cell? ⟨w.heap.size, 0, none⟩ = some (.int .i64 p) := by rw [World.cell?_alloc_at _ _ _ _ rfl]; rfl
  have HC0 := Lib.hid hc0
  clear hin hv hc0
  go_enter Try.func28, Try.ntmps28
  go_wp2_with (first | (go_at_call 35; (refine (inRange_any _ _ _ _).mono ?_; rw [H1.out]; rintro e w' ⟨rfl, rfl⟩)) | (go_at_call 56; (refine (HF.out _ (by repeat (first | exact Below.refl _ _ | assumption | refine Below.drew ?_ | refine below_drewN ?_ _ | refine Below.alloc ?_ (by first | omega | (simp; done) | (simp; omega)) _ | refine Below.setCell ?_ (by first | omega | (simp; done) | (simp; omega)) _ | refine Below.trans ?_ (Below.mono (by assumption) (by first | omega | (simp; done) | (simp; omega))))) HC0.out).mono ?_; rintro e w1 ⟨v1, rfl, ho1, hb1⟩; have hs1 := hb1.size)))
  (try simp at hs1)
  go_ret2
  exact ⟨_, rfl, own_mono ho1 (by first | omega | (simp; done) | (simp; omega)), (by repeat (first | exact Below.refl _ _ | assumption | refine Below.drew ?_ | refine below_drewN ?_ _ | refine Below.alloc ?_ (by first | omega | (simp; done) | (simp; omega)) _ | refine Below.setCell ?_ (by first | omega | (simp; done) | (simp; omega)) _ | refine Below.trans ?_ (Below.mono (by assumption) (by first | omega | (simp; done) | (simp; omega)))))⟩

set_option maxHeartbeats 1000000 in
theorem spread_out (a : Option Addr) (cap : Nat) (l : List (Int × Int)) (hl : l.length ≤ 1048576) {w : World} (ha : PairsAt w a l) (p : Int) (hp : inB 1 p 400 = false) :
    Calls Try.prog 28 #[.slice a l.length cap, .int .i64 p] w fun e w' => e = .returned (.tuple #[.slice none 0 0, .bool false]) ∧ Below w.heap.size w w' := by
  have H1 := Lib.hid hp
  clear hp
  go_enter Try.func28, Try.ntmps28
  go_wp2_with (first | (go_at_call 35; (refine (inRange_any _ _ _ _).mono ?_; rw [H1.out]; rintro e w' ⟨rfl, rfl⟩)))
  go_ret2
  exact ⟨rfl, (by repeat (first | exact Below.refl _ _ | assumption | refine Below.drew ?_ | refine below_drewN ?_ _ | refine Below.alloc ?_ (by first | omega | (simp; done) | (simp; omega)) _ | refine Below.setCell ?_ (by first | omega | (simp; done) | (simp; omega)) _ | refine Below.trans ?_ (Below.mono (by assumption) (by first | omega | (simp; done) | (simp; omega)))))⟩
theorem spread_any (a : Option Addr) (cap : Nat) (l : List (Int × Int)) (hl : l.length ≤ 1048576) {w : World} (ha : PairsAt w a l) (p : Int) :
    Calls Try.prog 28 #[.slice a l.length cap, .int .i64 p] w fun e w' => ∃ v, e = .returned (.tuple #[v, .bool (sprO l p && chOk (sprL l p))]) ∧ OwnPairs 24 w' w.heap.size v (chIf (sprL l p)) ∧ Below w.heap.size w w' := by
  cases hk : sprO l p
  · have e : sprL l p = [] := by unfold sprL; rw [hk]; rfl
    rw [e, chIf_no (show chOk [] = false from rfl)]
    have hno : Calls Try.prog 28 #[.slice a l.length cap, .int .i64 p] w fun e w' => e = .returned (.tuple #[.slice none 0 0, .bool false]) ∧ Below w.heap.size w w' := by
      cases hin : inB 1 p 400
      · exact spread_out a cap l hl ha p hin
      · have hv : chOk l = false := by unfold sprO at hk; rw [hin, Bool.and_true] at hk; exact hk
        exact spread_no a cap l hl ha p hin hv
    exact hno.mono fun e w' ⟨he, hb⟩ => ⟨_, he, own_nil _ _ _, hb⟩
  · have e : sprL l p = chgTo (sprG p) l l.length := by unfold sprL; rw [if_pos hk]
    rw [e]
    unfold sprO at hk
    rw [Bool.and_eq_true] at hk
    exact spread_yes a cap l hl ha p hk.2 hk.1

set_option maxHeartbeats 1000000 in
theorem turn_no (a : Option Addr) (cap : Nat) (l : List (Int × Int)) (hl : l.length ≤ 1048576) {w : World} (ha : PairsAt w a l) (q : Nat) (hin : inB 0 (q : Int) 3 = true) (hv : chOk l = false) :
    Calls Try.prog 30 #[.slice a l.length cap, .int .i64 (q : Int)] w fun e w' => e = .returned (.tuple #[.slice none 0 0, .bool false]) ∧ Below w.heap.size w w' := by
  have H1 := Lib.hid hin
  have HF := Lib.hid (fun (W : World) (hb : Below w.heap.size w W) => chgT_no a cap l hl (ha.below hb) q w.heap.size hv)
  clear hin hv
  go_enter Try.func30, Try.ntmps30
  go_wp2_with (first | (go_at_call 35; (refine (inRange_any _ _ _ _).mono ?_; rw [H1.out]; rintro e w' ⟨rfl, rfl⟩)) | (go_at_call 56; (refine (HF.out _ (by repeat (first | exact Below.refl _ _ | assumption | refine Below.drew ?_ | refine below_drewN ?_ _ | refine Below.alloc ?_ (by first | omega | (simp; done) | (simp; omega)) _ | refine Below.setCell ?_ (by first | omega | (simp; done) | (simp; omega)) _ | refine Below.trans ?_ (Below.mono (by assumption) (by first | omega | (simp; done) | (simp; omega)))))).mono ?_; rintro e w1 ⟨rfl, hb1⟩; have hs1 := hb1.size)))
  go_ret2
  exact ⟨rfl, (by repeat (first | exact Below.refl _ _ | assumption | refine Below.drew ?_ | refine below_drewN ?_ _ | refine Below.alloc ?_ (by first | omega | (simp; done) | (simp; omega)) _ | refine Below.setCell ?_ (by first | omega | (simp; done) | (simp; omega)) _ | refine Below.trans ?_ (Below.mono (by assumption) (by first | omega | (simp; done) | (simp; omega)))))⟩
set_option maxHeartbeats 1000000 in
theorem turn_yes (a : Option Addr) (cap : Nat) (l : List (Int × Int)) (hl : l.length ≤ 1048576) {w : World} (ha : PairsAt w a l) (q : Nat) (hin : inB 0 (q : Int) 3 = true) (hv : chOk l = true) :
    Calls Try.prog 30 #[.slice a l.length cap, .int .i64 (q : Int)] w fun e w' => ∃ v, e = .returned (.tuple #[v, .bool (chOk (chgTo (rotG q) l l.length))]) ∧ OwnPairs 24 w' w.heap.size v (chIf (chgTo (rotG q) l l.length)) ∧ Below w.heap.size w w' := by
  have H1 := Lib.hid hin
  obtain ⟨i1, i2⟩ := inB_iff.1 hin
  have HF := Lib.hid (fun (W : World) (hb : Below w.heap.size w W) (hc : W.cell? ⟨w.heap.size, 0, none⟩ = some (.int .i64 (q : Int))) => chgT_yes a cap l hl (ha.below hb) q w.heap.size (by omega) hc hv)
  have hc0 : (w.alloc (.cells #[.int .i64 (q : Int)] 3)).cell? ⟨w.heap.size, 0, none⟩ = some (.int .i64 (q : Int)) := by rw [World.cell?_alloc_at _ _ _ _ rfl]; rfl
  have HC0 := Lib.hid hc0
  clear hin hv hc0
  go_enter Try.func30, Try.ntmps30
  go_wp2_with (first | (go_at_call 35; (refine (inRange_any _ _ _ _).mono ?_; rw [H1.out]; rintro e w' ⟨rfl, rfl⟩)) | (go_at_call 56; (refine (HF.out _ (by repeat (first | exact Below.refl _ _ | assumption | refine Below.drew ?_ | refine below_drewN ?_ _ | refine Below.alloc ?_ (by first | omega | (simp; done) | (simp; omega)) _ | refine Below.setCell ?_ (by first | omega | (simp; done) | (simp; omega)) _ | refine Below.trans ?_ (Below.mono (by assumption) (by first | omega | (simp; done) | (simp; omega))))) HC0.out).mono ?_; rintro e w1 ⟨v1, rfl, ho1, hb1⟩; have hs1 := hb1.size)))
  (try simp at hs1)
  go_ret2
  exact ⟨_, rfl, own_mono ho1 (by first | omega | (simp; done) | (simp; omega)), (by repeat (first | exact Below.refl _ _ | assumption | refine Below.drew ?_ | refine below_drewN ?_ _ | refine Below.alloc ?_ (by first | omega | (simp; done) | (simp; omega)) _ | refine Below.setCell ?_ (by first | omega | (simp; done) | (simp; omega)) _ | refine Below.trans ?_ (Below.mono (by assumption) (by first | omega | (simp; done) | (simp; omega)))))⟩

set_option maxHeartbeats 1000000 in
theorem turn_out (a : Option Addr) (cap : Nat) (l : List (Int × Int)) (hl : l.length ≤ 1048576) {w : World} (ha : PairsAt w a l) (q : Int) (hp : inB 0 q 3 = false) :
    Calls Try.prog 30 #[.slice a l.length cap, .int .i64 q] w fun e w' => e = .returned (.tuple #[.slice none 0 0, .bool false]) ∧ Below w.heap.size w w' := by
  have H1 := Lib.hid hp
  clear hp
  go_enter Try.func30, Try.ntmps30
  go_wp2_with (first | (go_at_call 35; (refine (inRange_any _ _ _ _).mono ?_; rw [H1.out]; rintro e w' ⟨rfl, rfl⟩)))
  go_ret2
  exact ⟨rfl, (by repeat (first | exact Below.refl _ _ | assumption | refine Below.drew ?_ | refine below_drewN ?_ _ | refine Below.alloc ?_ (by first | omega | (simp; done) | (simp; omega)) _ | refine Below.setCell ?_ (by first | omega | (simp; done) | (simp; omega)) _ | refine Below.trans ?_ (Below.mono (by assumption) (by first | omega | (simp; done) | (simp; omega)))))⟩
theorem turn_any (a : Option Addr) (cap : Nat) (l : List (Int × Int)) (hl : l.length ≤ 1048576) {w : World} (ha : PairsAt w a l) (q : Int) :
    Calls Try.prog 30 #[.slice a l.length cap, .int .i64 q] w fun e w' => ∃ v, e = .returned (.tuple #[v, .bool (trnO l q && chOk (trnL l q))]) ∧ OwnPairs 24 w' w.heap.size v (chIf (trnL l q)) ∧ Below w.heap.size w w' := by
  cases hk : trnO l q
  · have e : trnL l q = [] := by unfold trnL; rw [hk]; rfl
    rw [e, chIf_no (show chOk [] = false from rfl)]
    have hno : Calls Try.prog 30 #[.slice a l.length cap, .int .i64 q] w fun e w' => e = .returned (.tuple #[.slice none 0 0, .bool false]) ∧ Below w.heap.size w w' := by
      cases hin : inB 0 q 3
      · exact turn_out a cap l hl ha q hin
      · have hv : chOk l = false := by unfold trnO at hk; rw [hin, Bool.and_true] at hk; exact hk
        have h0 := (inB_iff.1 hin).1
        have h := turn_no a cap l hl ha q.toNat (by rw [Int.toNat_of_nonneg h0]; exact hin) hv
        rw [Int.toNat_of_nonneg h0] at h
        exact h
    exact hno.mono fun e w' ⟨he, hb⟩ => ⟨_, he, own_nil _ _ _, hb⟩
  · have e : trnL l q = chgTo (rotG q.toNat) l l.length := by unfold trnL; rw [if_pos hk]
    rw [e]
    unfold trnO at hk
    rw [Bool.and_eq_true] at hk
    have h0 := (inB_iff.1 hk.2).1
    have h := turn_yes a cap l hl ha q.toNat (by rw [Int.toNat_of_nonneg h0]; exact hk.2) hk.1
    rw [Int.toNat_of_nonneg h0] at h
    exact h

end Go.Proofs.Ytppnomflmacpkaa
