/- Charts, both sides: whole lists, copies. No conditions but those written in each theorem. -/
import Derived.Test.YtfimjfchdaioeaaDoorChGood
import Derived.Test.YtfimjfchdaioeaaDoorToSpot
import Derived.Deep.RegionHeld3
import Derived.Deep.DrawnRows
import Derived.IntWalk
import Derived.Laws.AppendOwn
import Derived.Lib.SliceRun
namespace Go.Proofs.YtfimjfchdaioeaaDoor
open Go.RowKit


attribute [local go_sem ↓] Go.wp_at_zero Go.wp_at_succ

theorem own_viewC {ty : TypeId} {w : World} {base : Nat} {v : Value} {l : List (Int × Int)} (h : OwnPairs ty w base v l) :
    ∃ (a : Option Addr) (cap : Nat), v = .slice a l.length cap ∧ PairsAt w a l ∧ l.length ≤ cap := by
  obtain ⟨a, cap, rfl, hp, _⟩ := own_viewP h
  refine ⟨a, cap, rfl, hp, ?_⟩
  rcases h.2 with ⟨e, h0⟩ | ⟨g, cap', cur, e, _, _, hn, _⟩
  · rw [h0]; exact Nat.zero_le _
  · cases e; exact hn

theorem okList_small {l : List (Int × Int)} (h : inB 1 (l.length : Int) 12 = true) : okList l = allOn l := by
  have := inB_iff.1 h
  unfold okList
  rw [decide_eq_true (by omega), Bool.and_true]
set_option maxHeartbeats 1000000 in
theorem isChart_any (a : Option Addr) (cap : Nat) (l : List (Int × Int)) (hl : l.length ≤ 1048576) {w : World} (ha : PairsAt w a l) :
    Calls Tryd.prog 12 #[.slice a l.length cap] w fun e w' => e = .returned (.bool (chOk l)) ∧ Below w.heap.size w w' := by
  have HS := Lib.hid (fun (W : World) (hb : Below w.heap.size w W) => areSpots_any a cap l hl (ha.below hb))
  cases h1 : inB 1 (l.length : Int) 12
  · have E0 := Lib.hid (chOk_len h1)
    have HP := Lib.hid h1
    clear h1
    go_enter Tryd.func12, Tryd.ntmps12
    go_wp2_with (first | (go_at_call 20; (refine (isPerformers_any _ _).mono ?_; rintro e w' ⟨rfl, rfl⟩; rw [HP.out]; clear HP)))
    go_ret
    exact ⟨by rw [E0.out]; rfl, (by repeat (first | exact Below.refl _ _ | assumption | refine Below.drew ?_ | refine below_drewN ?_ _ | refine Below.alloc ?_ (by first | omega | (simp; done) | (simp; omega)) _ | refine Below.setCell ?_ (by first | omega | (simp; done) | (simp; omega)) _ | refine Below.trans ?_ (Below.mono (by assumption) (by first | omega | (simp; done) | (simp; omega)))))⟩
  · have hok := okList_small h1
    have hlen := inB_iff.1 h1
    cases h2 : allOn l
    · rw [h2] at hok
      have E0 := Lib.hid (chOk_on h2)
      have HP := Lib.hid h1
      have HO := Lib.hid hok
      clear h1 h2 hok
      go_enter Tryd.func12, Tryd.ntmps12
      go_wp2_with (first | (go_at_call 20; (refine (isPerformers_any _ _).mono ?_; rintro e w' ⟨rfl, rfl⟩; rw [HP.out]; clear HP)) | (go_at_call 21; (refine (HS.out _ (by repeat (first | exact Below.refl _ _ | assumption | refine Below.drew ?_ | refine below_drewN ?_ _ | refine Below.alloc ?_ (by first | omega | (simp; done) | (simp; omega)) _ | refine Below.setCell ?_ (by first | omega | (simp; done) | (simp; omega)) _ | refine Below.trans ?_ (Below.mono (by assumption) (by first | omega | (simp; done) | (simp; omega)))))).mono ?_; rw [HO.out]; rintro e w1 ⟨rfl, hb1⟩; have hs1 := hb1.size)))
      go_ret
      exact ⟨by rw [E0.out]; rfl, (by repeat (first | exact Below.refl _ _ | assumption | refine Below.drew ?_ | refine below_drewN ?_ _ | refine Below.alloc ?_ (by first | omega | (simp; done) | (simp; omega)) _ | refine Below.setCell ?_ (by first | omega | (simp; done) | (simp; omega)) _ | refine Below.trans ?_ (Below.mono (by assumption) (by first | omega | (simp; done) | (simp; omega)))))⟩
    · rw [h2] at hok
      have HD := Lib.hid (fun (W : World) (hb : Below w.heap.size w W) => allDiffer_any a cap l (by omega) h2 (ha.below hb))
      have E0 := Lib.hid (show chOk l = diffP l by unfold chOk; rw [h1, h2, Bool.and_true]; rfl)
      have HP := Lib.hid h1
      have HO := Lib.hid hok
      clear h1 h2 hok
      go_enter Tryd.func12, Tryd.ntmps12
      go_wp2_with (first | (go_at_call 20; (refine (isPerformers_any _ _).mono ?_; rintro e w' ⟨rfl, rfl⟩; rw [HP.out]; clear HP)) | (go_at_call 21; (refine (HS.out _ (by repeat (first | exact Below.refl _ _ | assumption | refine Below.drew ?_ | refine below_drewN ?_ _ | refine Below.alloc ?_ (by first | omega | (simp; done) | (simp; omega)) _ | refine Below.setCell ?_ (by first | omega | (simp; done) | (simp; omega)) _ | refine Below.trans ?_ (Below.mono (by assumption) (by first | omega | (simp; done) | (simp; omega)))))).mono ?_; rw [HO.out]; rintro e w1 ⟨rfl, hb1⟩; have hs1 := hb1.size)) | (go_at_call 22; (refine (HD.out _ (by repeat (first | exact Below.refl _ _ | assumption | refine Below.drew ?_ | refine below_drewN ?_ _ | refine Below.alloc ?_ (by first | omega | (simp; done) | (simp; omega)) _ | refine Below.setCell ?_ (by first | omega | (simp; done) | (simp; omega)) _ | refine Below.trans ?_ (Below.mono (by assumption) (by first | omega | (simp; done) | (simp; omega)))))).mono ?_; rintro e w2 ⟨rfl, hb2⟩; have hs2 := hb2.size)))
      go_ret
      exact ⟨by rw [E0.out]; rfl, (by repeat (first | exact Below.refl _ _ | assumption | refine Below.drew ?_ | refine below_drewN ?_ _ | refine Below.alloc ?_ (by first | omega | (simp; done) | (simp; omega)) _ | refine Below.setCell ?_ (by first | omega | (simp; done) | (simp; omega)) _ | refine Below.trans ?_ (Below.mono (by assumption) (by first | omega | (simp; done) | (simp; omega)))))⟩

end Go.Proofs.YtfimjfchdaioeaaDoor
