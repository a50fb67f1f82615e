/- Charts, both sides. No conditions but those written in each theorem. -/
import Derived.Test.YtfimjfchdaioeaaDoorChDiff
import Derived.Test.YtfimjfchdaioeaaDoorOwn
import Derived.Deep.RegionHeld3
import Derived.Deep.DrawnRows
import Derived.IntWalk
namespace Go.Proofs.YtfimjfchdaioeaaDoor
open Go.RowKit


attribute [local go_sem ↓] Go.wp_at_zero Go.wp_at_succ

/-- A chart: 1 to 12 spots, all different. -/
def chOk (l : List (Int × Int)) : Bool := allOn l && diffP l && inB 1 (l.length : Int) 12
theorem chOk_parts {l : List (Int × Int)} (h : chOk l = true) : allOn l = true ∧ diffP l = true ∧ 1 ≤ l.length ∧ l.length ≤ 12 := by
  unfold chOk at h
  rw [Bool.and_eq_true, Bool.and_eq_true, inB_iff] at h
  exact ⟨h.1.1, h.1.2, by omega, by omega⟩
theorem chOk_on {l : List (Int × Int)} (h : allOn l = false) : chOk l = false := by unfold chOk; rw [h]; rfl
theorem chOk_diff {l : List (Int × Int)} (h : diffP l = false) : chOk l = false := by unfold chOk; rw [h, Bool.and_false, Bool.false_and]
theorem chOk_len {l : List (Int × Int)} (h : inB 1 (l.length : Int) 12 = false) : chOk l = false := by unfold chOk; rw [h, Bool.and_false]
theorem chOk_mk {l : List (Int × Int)} (h1 : allOn l = true) (h2 : diffP l = true) : chOk l = inB 1 (l.length : Int) 12 := by unfold chOk; rw [h1, h2]; rfl
/-- The spots, if they are a chart. -/
def chIf (l : List (Int × Int)) : List (Int × Int) := if chOk l then l else []
theorem chIf_yes {l : List (Int × Int)} (h : chOk l = true) : chIf l = l := by unfold chIf; rw [if_pos h]
theorem chIf_no {l : List (Int × Int)} (h : chOk l = false) : chIf l = [] := by unfold chIf; rw [if_neg (by rw [h]; simp)]
theorem chIf_length (l : List (Int × Int)) : (chIf l).length ≤ 12 := by
  cases h : chOk l
  · rw [chIf_no h]; simp
  · rw [chIf_yes h]; exact (chOk_parts h).2.2.2

set_option maxHeartbeats 2000000 in
theorem chGood_any (a : Option Addr) (cap : Nat) (l : List (Int × Int)) (hl : l.length ≤ 1048576) (hc : l.length ≤ cap) {w : World} (ha : PairsAt w a l) :
    Calls Tryd.prog 9 #[.slice a l.length cap] w fun e w' => e = .returned (.bool (chOk l)) ∧ Below w.heap.size w w' := by
  have HA := Lib.hid ha
  clear ha
  go_enter Tryd.func9, Tryd.ntmps9
  go_wp2
  go_loopw [9] (fun i wr => ∃ (k : Nat), k ≤ l.length ∧ i = .int .i64 k ∧ Hid (∀ j, j < k → onField (sx l j) (sy l j) = true) ∧ Hid (Diff l k) ∧ Below w.heap.size w wr) (fun i _ => l.length - (intOf i).toNat)
  case atStart => exact ⟨0, Nat.zero_le _, rfl, Lib.hid (fun j h => absurd h (Nat.not_lt_zero j)), Lib.hid (fun i j _ hj => absurd hj (Nat.not_lt_zero j)), Below.refl _ _⟩
  case round =>
    obtain ⟨k, hk, rfl, HON, HDIF, hbr⟩ := hrel
    obtain ⟨wo, rfl⟩ : ∃ wo, wo = wr := ⟨_, rfl⟩
    have hsr := hbr.size
    by_cases hlt : k < l.length
    · obtain ⟨b, off, rfl, c0, c1⟩ := (HA.out.below hbr) k hlt
      have hb0 := World.block_lt_of_cell? _ _ c0
      cases hg : onField (sx l k) (sy l k)
      · have E0 := Lib.hid (chOk_on (allOn_false hlt hg))
        go_wp2_with (go_at_call 17; (refine (stGood_any _ _ _).mono ?_; rintro e w1 ⟨rfl, hb1⟩; have hs1 := hb1.size; (try simp at hs1); (first | have hk4 := call_facts hl3 hb1 (by simp) | skip); (first | have hk3 := call_facts hl2 hb1 (by simp) | skip); (first | have hk2 := call_facts hl1 hb1 (by simp) | skip); have hk1 := call_facts (fun b h => h) hb1 (Nat.le_refl _); (first | have hl4 := hk4.1 | skip); (first | have hl3 := hk3.1 | skip); (first | have hl2 := hk2.1 | skip); have hl1 := hk1.1))
        go_ret
        exact ⟨by rw [E0.out]; rfl, (by repeat (first | exact Below.refl _ _ | assumption | refine Below.drew ?_ | refine below_drewN ?_ _ | refine Below.alloc ?_ (by first | omega | (simp; done) | (simp; omega)) _ | refine Below.setCell ?_ (by first | omega | (simp; done) | (simp; omega)) _ | refine Below.trans ?_ (Below.mono (by assumption) (by first | omega | (simp; done) | (simp; omega)))))⟩
      · have HON2 := Lib.hid (ext_lt (p := fun j => onField (sx l j) (sy l j) = true) HON.out hg)
        have i0 : (0 : Int) ≤ (k : Int) := by omega
        have i1 : (k : Int) ≤ (cap : Int) := by omega
        have i2 : k ≤ cap := by omega
        go_wp2_with (go_at_call 17; (refine (stGood_any _ _ _).mono ?_; rintro e w1 ⟨rfl, hb1⟩; have hs1 := hb1.size; (try simp at hs1); (first | have hk4 := call_facts hl3 hb1 (by simp) | skip); (first | have hk3 := call_facts hl2 hb1 (by simp) | skip); (first | have hk2 := call_facts hl1 hb1 (by simp) | skip); have hk1 := call_facts (fun b h => h) hb1 (Nat.le_refl _); (first | have hl4 := hk4.1 | skip); (first | have hl3 := hk3.1 | skip); (first | have hl2 := hk2.1 | skip); have hl1 := hk1.1))
        have hbi : Below w.heap.size w w1 := (by repeat (first | exact Below.refl _ _ | assumption | refine Below.drew ?_ | refine below_drewN ?_ _ | refine Below.alloc ?_ (by first | omega | (simp; done) | (simp; omega)) _ | refine Below.setCell ?_ (by first | omega | (simp; done) | (simp; omega)) _ | refine Below.trans ?_ (Below.mono (by assumption) (by first | omega | (simp; done) | (simp; omega)))))
        have d0 : w1.cell? ⟨wo.heap.size, 0, none⟩ = some (.int .i64 (sx l k)) := (hb1.cell (p := ⟨wo.heap.size, 0, none⟩) (by show wo.heap.size < _; simp)).trans (by go_simp)
        have d1 : w1.cell? ⟨wo.heap.size, 1, none⟩ = some (.int .i64 (sy l k)) := (hb1.cell (p := ⟨wo.heap.size, 1, none⟩) (by show wo.heap.size < _; simp)).trans (by go_simp)
        (repeat clear hl1); (repeat clear hl2); (repeat clear hl3); (repeat clear hl4); (repeat clear hk1); (repeat clear hk2); (repeat clear hk3); (repeat clear hk4); (repeat clear hcn); (repeat clear hfn); (repeat clear hln); (repeat clear hz0); (repeat clear hz1); (repeat clear hz2); (repeat clear hs1); (repeat clear hb1)
        clear HON
        go_loopw [21] (fun i wr => ∃ (m : Nat), m ≤ k ∧ i = .int .i64 m ∧ Hid (∀ j, j < m → ¬ same l j k) ∧ wr.cell? ⟨wo.heap.size, 0, none⟩ = some (.int .i64 (sx l k)) ∧ wr.cell? ⟨wo.heap.size, 1, none⟩ = some (.int .i64 (sy l k)) ∧ Below w.heap.size w wr) (fun i _ => k - (intOf i).toNat)
        case atStart => exact ⟨0, Nat.zero_le _, rfl, Lib.hid (fun j h => absurd h (Nat.not_lt_zero j)), d0, d1, hbi⟩
        case round =>
          clear d0 d1 hbi
          obtain ⟨m, hm, rfl, HNO, d0, d1, hbi⟩ := hrel
          have hsi := hbi.size
          by_cases hlm : m < k
          · obtain ⟨b', off', hbb, c2, c3⟩ := (HA.out.below hbi) m (by omega)
            simp only [Option.some.injEq, Addr.mk.injEq] at hbb
            obtain ⟨hb1', hb2', _⟩ := hbb
            subst hb1' hb2'
            have n4 : wo.heap.size < wr.heap.size := World.block_lt_of_cell? wr _ d0
            have n5 : ¬ wr.heap.size = wo.heap.size := by omega
            have n6 : ¬ wo.heap.size = wr.heap.size := by omega


            have i3 : (0 : Int) ≤ (m : Int) := by omega
            have i4 : (m : Int) < (k : Int) := by omega
            by_cases hs : same l m k
            · have E0 := Lib.hid (chOk_diff (diffP_no hs hlm hlt))
              rw [hs.1] at c2
              rw [hs.2] at c3
              clear hs
              go_wp2
              go_ret
              exact ⟨by rw [E0.out]; rfl, (by repeat (first | exact Below.refl _ _ | assumption | refine Below.drew ?_ | refine below_drewN ?_ _ | refine Below.alloc ?_ (by first | omega | (simp; done) | (simp; omega)) _ | refine Below.setCell ?_ (by first | omega | (simp; done) | (simp; omega)) _ | refine Below.trans ?_ (Below.mono (by assumption) (by first | omega | (simp; done) | (simp; omega)))))⟩
            · have HNO2 := Lib.hid (ext_lt (p := fun j => ¬ same l j k) HNO.out hs)
              have hb2 : (sx l k == sx l m) = false ∨ ((sx l k == sx l m) = true ∧ (sy l k == sy l m) = false) := by
                by_cases e : sx l k = sx l m
                · refine .inr ⟨by simpa using e, ?_⟩
                  have : sy l k ≠ sy l m := fun e2 => hs ⟨e.symm, e2.symm⟩
                  simpa using this
                · exact .inl (by simpa using e)
              clear hs
              rcases hb2 with q1 | ⟨q1, q2⟩
              all_goals
                go_wp2
                go_roundw
                case rel => exact ⟨m + 1, by omega, by go_num, HNO2, by go_simp, by go_simp, (by repeat (first | exact Below.refl _ _ | assumption | refine Below.drew ?_ | refine below_drewN ?_ _ | refine Below.alloc ?_ (by first | omega | (simp; done) | (simp; omega)) _ | refine Below.setCell ?_ (by first | omega | (simp; done) | (simp; omega)) _ | refine Below.trans ?_ (Below.mono (by assumption) (by first | omega | (simp; done) | (simp; omega)))))⟩
                case measure => simp [intOf]; omega
          · obtain rfl : m = k := by omega
            have HDIF2 := Lib.hid (diff_step HDIF.out HNO.out)
            go_wp2
            go_roundw
            case rel => exact ⟨m + 1, by omega, by go_num, HON2, HDIF2, (by repeat (first | exact Below.refl _ _ | assumption | refine Below.drew ?_ | refine below_drewN ?_ _ | refine Below.alloc ?_ (by first | omega | (simp; done) | (simp; omega)) _ | refine Below.setCell ?_ (by first | omega | (simp; done) | (simp; omega)) _ | refine Below.trans ?_ (Below.mono (by assumption) (by first | omega | (simp; done) | (simp; omega)))))⟩
            case measure => simp [intOf]; omega
    · obtain rfl : k = l.length := by omega
      have E0 := Lib.hid (chOk_mk (allOn_true HON.out) (diffP_yes HDIF.out))
      go_wp2_with (go_at_call 18; (refine (l1In_any _ _ _ _).mono ?_; rintro e w' ⟨rfl, rfl⟩))
      go_ret
      exact ⟨by rw [E0.out]; rfl, (by repeat (first | exact Below.refl _ _ | assumption | refine Below.drew ?_ | refine below_drewN ?_ _ | refine Below.alloc ?_ (by first | omega | (simp; done) | (simp; omega)) _ | refine Below.setCell ?_ (by first | omega | (simp; done) | (simp; omega)) _ | refine Below.trans ?_ (Below.mono (by assumption) (by first | omega | (simp; done) | (simp; omega)))))⟩

end Go.Proofs.YtfimjfchdaioeaaDoor
