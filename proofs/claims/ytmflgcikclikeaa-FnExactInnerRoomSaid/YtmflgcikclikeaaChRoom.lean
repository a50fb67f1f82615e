/- The room of a form, the program's side. No conditions but those written in each theorem. -/
import Derived.Test.YtmflgcikclikeaaChClI
import Derived.Deep.RegionHeld3
import Derived.Deep.DrawnRows
import Derived.IntWalk
namespace Go.Proofs.Ytmflgcikclikeaa
open Go.RowKit


attribute [local go_sem ↓] Go.wp_at_zero Go.wp_at_succ

set_option maxHeartbeats 1000000 in
theorem room_any1 (a : Option Addr) (cap : Nat) (l : List (Int × Int)) (hl : l.length ≤ 1048576) {w : World} (ha : PairsAt w a l) (h1 : l.length = 1) :
    Calls Try.prog 7 #[.slice a l.length cap] w fun e w' => e = .returned (.tuple #[.int .i64 (roomV l), .bool (chOk l)]) ∧ Below w.heap.size w w' := by
  rw [room_one h1]
  have HS := Lib.hid (fun (W : World) (hb : Below w.heap.size w W) => isChart_any a cap l hl (ha.below hb))
  have u1 : ((l.length : Int) == 1) = true := by rw [h1]; rfl
  have u2 : (l.length : Int) = 1 := by omega
  obtain ⟨n, hn⟩ : ∃ n, n = l.length := ⟨_, rfl⟩
  rw [← hn] at HS u1 u2 ⊢
  clear h1 hn
  go_enter Try.func7, Try.ntmps7
  go_wp2_with (first | (go_at_call 13; (refine (HS.out _ (by repeat (first | exact Below.refl _ _ | assumption | refine Below.drew ?_ | refine below_drewN ?_ _ | refine Below.alloc ?_ (by first | omega | (simp; done) | (simp; omega)) _ | refine Below.setCell ?_ (by first | omega | (simp; done) | (simp; omega)) _ | refine Below.trans ?_ (Below.mono (by assumption) (by first | omega | (simp; done) | (simp; omega)))))).mono ?_; rintro e w1 ⟨rfl, hb1⟩; have hs1 := hb1.size)))
  go_ret2
  exact ⟨rfl, (by repeat (first | exact Below.refl _ _ | assumption | refine Below.drew ?_ | refine below_drewN ?_ _ | refine Below.alloc ?_ (by first | omega | (simp; done) | (simp; omega)) _ | refine Below.setCell ?_ (by first | omega | (simp; done) | (simp; omega)) _ | refine Below.trans ?_ (Below.mono (by assumption) (by first | omega | (simp; done) | (simp; omega)))))⟩
set_option maxHeartbeats 1000000 in
theorem room_any (a : Option Addr) (cap : Nat) (l : List (Int × Int)) (hl : l.length ≤ 1048576) {w : World} (ha : PairsAt w a l) (hc : l.length ≤ cap) :
    Calls Try.prog 7 #[.slice a l.length cap] w fun e w' => e = .returned (.tuple #[.int .i64 (roomV l), .bool (chOk l)]) ∧ Below w.heap.size w w' := by
  by_cases h1 : l.length = 1
  · exact room_any1 a cap l hl ha h1
  · have hls : ∀ (W : World), Below w.heap.size w W → Calls Try.prog 14 #[.slice a l.length cap] W fun e w' => e = .returned (.tuple #[.int .i64 (roomV l), .bool (chOk l)]) ∧ Below W.heap.size W w' := fun W hb => by
      have h := leastI_any a cap l hl (ha.below hb)
      have e : guardI (clOk l) (leastV l) = roomV l := by
        cases hv : chOk l
        · unfold roomV; rw [hv, clOk_ch hv]; rfl
        · have h1' := (chOk_parts hv).2.2.1
          have h0 := (leastV_is (chOk_parts hv).1 (by omega)).2.1
          unfold roomV
          rw [clOk_yes hv (by omega), hv]
          simp only [guardI_facts.1]
          unfold hi2
          split <;> omega
      rw [e, clOk_not h1] at h
      exact h
    have HLS := Lib.hid hls
    have u1 : ¬ ((l.length : Int) = 1) := by omega
    have u2 : ((l.length : Int) == 1) = false := by simpa using u1
    clear hls
    go_enter Try.func7, Try.ntmps7
    go_wp2_with (first | (go_at_call 14; (refine (HLS.out _ (by repeat (first | exact Below.refl _ _ | assumption | refine Below.drew ?_ | refine below_drewN ?_ _ | refine Below.alloc ?_ (by first | omega | (simp; done) | (simp; omega)) _ | refine Below.setCell ?_ (by first | omega | (simp; done) | (simp; omega)) _ | refine Below.trans ?_ (Below.mono (by assumption) (by first | omega | (simp; done) | (simp; omega)))))).mono ?_; rintro e w2 ⟨rfl, hb2⟩; have hs2 := hb2.size)))
    go_ret2
    exact ⟨rfl, (by repeat (first | exact Below.refl _ _ | assumption | refine Below.drew ?_ | refine below_drewN ?_ _ | refine Below.alloc ?_ (by first | omega | (simp; done) | (simp; omega)) _ | refine Below.setCell ?_ (by first | omega | (simp; done) | (simp; omega)) _ | refine Below.trans ?_ (Below.mono (by assumption) (by first | omega | (simp; done) | (simp; omega)))))⟩

end Go.Proofs.Ytmflgcikclikeaa
