/- The least square of a chart, the program's side, and the room of a form, both sides. No conditions but those written in each theorem. -/
import Derived.Test.YtmflgcikclikeaaChLeast
import Derived.Deep.RegionHeld3
import Derived.Deep.DrawnRows
import Derived.IntWalk
import Derived.Laws.AppendOwn
import Derived.Deep.AppendLies
import Derived.StillTailTactics
namespace Go.Proofs.Ytmflgcikclikeaa
open Go.RowKit


attribute [local go_sem ↓] Go.wp_at_zero Go.wp_at_succ

theorem minF : ∀ a b : Int, (if b < a then b else a) = lo2 a b := fun a b => by unfold lo2; split <;> split <;> omega
/-- Some pair has this square. -/
def HasSq (l : List (Int × Int)) (v : Int) : Prop := ∃ i k, i < k ∧ k < l.length ∧ v = sqp l i k
/-- No pair of the first n spots has a less one. -/
def AllSq (l : List (Int × Int)) (v : Int) (n : Nat) : Prop := ∀ i k, i < k → k < n → v ≤ sqp l i k
theorem HasSq.bound {l : List (Int × Int)} (h : allOn l = true) {v : Int} (hs : HasSq l v) : 0 ≤ v ∧ v ≤ 2089984 := by
  obtain ⟨i, k, hik, hk, rfl⟩ := hs
  exact sqp_bound h (by omega) hk
theorem HasSq.lo {l : List (Int × Int)} {v : Int} (hs : HasSq l v) {i k : Nat} (hik : i < k) (hk : k < l.length) : HasSq l (lo2 v (sqp l i k)) := by
  unfold lo2
  split
  · exact hs
  · exact ⟨i, k, hik, hk, rfl⟩
theorem lo2_le (a b : Int) : lo2 a b ≤ a ∧ lo2 a b ≤ b := by unfold lo2; split <;> omega
/-- The room of a form. -/
def roomV (l : List (Int × Int)) : Int := guardI (chOk l) (hi2 0 (leastV l))
theorem room_one {l : List (Int × Int)} (h : l.length = 1) : roomV l = 0 := by
  unfold roomV
  rw [leastV_one h]
  cases chOk l <;> rfl
theorem room_more {l : List (Int × Int)} (h : chOk l = true) (h2 : 2 ≤ l.length) {v : Int} (hv : IsLeast l v) : roomV l = v := by
  have hl := leastV_is (chOk_parts h).1 h2
  have e := IsLeast.eq hl.1 hv
  have h0 := hl.2.1
  unfold roomV
  rw [h, ← e]
  show hi2 0 (leastV l) = leastV l
  unfold hi2
  rw [if_neg (by omega)]

set_option maxHeartbeats 1000000 in
theorem specRoom_no (a : Option Addr) (cap : Nat) (l : List (Int × Int)) (hl : l.length ≤ 1048576) (hc : l.length ≤ cap) {w : World} (ha : PairsAt w a l) (hv : chOk l = false) :
    Calls Try.prog 5 #[.slice a l.length cap] w fun e w' => e = .returned (.tuple #[.int .i64 0, .bool false]) ∧ Below w.heap.size w w' := by
  have HS := Lib.hid (fun (W : World) (hb : Below w.heap.size w W) => chGood_any a cap l hl hc (ha.below hb))
  have HV := Lib.hid hv
  clear hv
  go_enter Try.func5, Try.ntmps5
  go_wp2_with (first | (go_at_call 9; (refine (HS.out _ (by repeat (first | exact Below.refl _ _ | assumption | refine Below.drew ?_ | refine below_drewN ?_ _ | refine Below.alloc ?_ (by first | omega | (simp; done) | (simp; omega)) _ | refine Below.setCell ?_ (by first | omega | (simp; done) | (simp; omega)) _ | refine Below.trans ?_ (Below.mono (by assumption) (by first | omega | (simp; done) | (simp; omega)))))).mono ?_; rw [HV.out]; rintro e w1 ⟨rfl, hb1⟩; have hs1 := hb1.size)))
  go_ret2
  exact ⟨rfl, (by repeat (first | exact Below.refl _ _ | assumption | refine Below.drew ?_ | refine below_drewN ?_ _ | refine Below.alloc ?_ (by first | omega | (simp; done) | (simp; omega)) _ | refine Below.setCell ?_ (by first | omega | (simp; done) | (simp; omega)) _ | refine Below.trans ?_ (Below.mono (by assumption) (by first | omega | (simp; done) | (simp; omega)))))⟩
set_option maxHeartbeats 1000000 in
theorem specRoom_yes (a : Option Addr) (cap : Nat) (l : List (Int × Int)) (hl : l.length ≤ 1048576) (hc : l.length ≤ cap) {w : World} (ha : PairsAt w a l) (hv : chOk l = true) :
    Calls Try.prog 5 #[.slice a l.length cap] w fun e w' => e = .returned (.tuple #[.int .i64 (hi2 0 (leastV l)), .bool true]) ∧ Below w.heap.size w w' := by
  have HS := Lib.hid (fun (W : World) (hb : Below w.heap.size w W) => chGood_any a cap l hl hc (ha.below hb))
  have hle := fun (W : World) (hb : Below w.heap.size w W) => chLeast_any a cap l hl (chOk_parts hv).1 (ha.below hb)
  have e9 : (bestB l).n = leastV l := rfl
  simp only [e9] at hle
  have HLE := Lib.hid hle
  have HV := Lib.hid hv
  clear hv hle e9
  go_enter Try.func5, Try.ntmps5
  go_wp2_with (first | (go_at_call 9; (refine (HS.out _ (by repeat (first | exact Below.refl _ _ | assumption | refine Below.drew ?_ | refine below_drewN ?_ _ | refine Below.alloc ?_ (by first | omega | (simp; done) | (simp; omega)) _ | refine Below.setCell ?_ (by first | omega | (simp; done) | (simp; omega)) _ | refine Below.trans ?_ (Below.mono (by assumption) (by first | omega | (simp; done) | (simp; omega)))))).mono ?_; rw [HV.out]; rintro e w1 ⟨rfl, hb1⟩; have hs1 := hb1.size)) | (go_at_call 10; (refine (HLE.out _ (by repeat (first | exact Below.refl _ _ | assumption | refine Below.drew ?_ | refine below_drewN ?_ _ | refine Below.alloc ?_ (by first | omega | (simp; done) | (simp; omega)) _ | refine Below.setCell ?_ (by first | omega | (simp; done) | (simp; omega)) _ | refine Below.trans ?_ (Below.mono (by assumption) (by first | omega | (simp; done) | (simp; omega)))))).mono ?_; rintro e w2 ⟨rfl, hb2⟩; have hs2 := hb2.size)) | (go_at_call 11; ((with_reducible refine (l1Most_any _ _ _).mono ?_); rintro e w' ⟨rfl, rfl⟩)))
  go_ret2
  exact ⟨rfl, (by repeat (first | exact Below.refl _ _ | assumption | refine Below.drew ?_ | refine below_drewN ?_ _ | refine Below.alloc ?_ (by first | omega | (simp; done) | (simp; omega)) _ | refine Below.setCell ?_ (by first | omega | (simp; done) | (simp; omega)) _ | refine Below.trans ?_ (Below.mono (by assumption) (by first | omega | (simp; done) | (simp; omega)))))⟩
theorem specRoom_any (a : Option Addr) (cap : Nat) (l : List (Int × Int)) (hl : l.length ≤ 1048576) (hc : l.length ≤ cap) {w : World} (ha : PairsAt w a l) :
    Calls Try.prog 5 #[.slice a l.length cap] w fun e w' => e = .returned (.tuple #[.int .i64 (roomV l), .bool (chOk l)]) ∧ Below w.heap.size w w' := by
  cases hv : chOk l
  · have e : roomV l = 0 := by unfold roomV; rw [hv]; rfl
    rw [e]
    exact specRoom_no a cap l hl hc ha hv
  · have e : roomV l = hi2 0 (leastV l) := by unfold roomV; rw [hv]; rfl
    rw [e]
    exact specRoom_yes a cap l hl hc ha hv

end Go.Proofs.Ytmflgcikclikeaa
