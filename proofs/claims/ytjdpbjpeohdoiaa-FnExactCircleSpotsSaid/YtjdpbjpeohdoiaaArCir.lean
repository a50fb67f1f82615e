/- Eight spots of a circle, both sides. Conditions: those written in each theorem. -/
import Derived.Test.YtjdpbjpeohdoiaaArSeq
import Derived.Deep.RegionHeld3
import Derived.Deep.DrawnRows
import Derived.IntWalk
import Derived.Laws.AppendOwn
import Derived.Deep.AppendLies
import Derived.StillTailTactics
import Derived.IntWalk
import Derived.Deep.DeepCutAuto
namespace Go.Proofs.Ytjdpbjpeohdoiaa
open Go.RowKit


attribute [local go_sem ↓] Go.wp_at_zero Go.wp_at_succ

def cirD (r : Int) : Int := rt (r * r / 2)
/-- The eight ways, and the spots that the first k of them reach. -/
def cirW (r d : Int) : List (Int × Int) := [(r, 0), (d, d), (0, r), (-d, d), (-r, 0), (-d, -d), (0, -r), (d, -d)]
def cirTo (x y r d : Int) : Nat → List (Int × Int)
  | 0 => []
  | k + 1 => cirTo x y r d k ++ [(x + sx (cirW r d) k, y + sy (cirW r d) k)]
theorem cirTo_length (x y r d : Int) : ∀ k, (cirTo x y r d k).length = k
  | 0 => rfl
  | k + 1 => by rw [cirTo, List.length_append, cirTo_length x y r d k]; rfl
def cirL (x y r : Int) : List (Int × Int) := if arOk x y r then cirTo x y r (cirD r) 8 else []
theorem cirL_length (x y r : Int) : (cirL x y r).length ≤ 8 := by
  unfold cirL
  split
  · rw [cirTo_length]; exact Nat.le_refl _
  · exact Nat.zero_le _
theorem cirD_bound {r : Int} (h1 : 1 ≤ r) (h2 : r ≤ 1400) : 0 ≤ r * r ∧ r * r ≤ 1960000 ∧ 0 ≤ r * r / 2 ∧ r * r / 2 ≤ 980000 ∧ 0 ≤ cirD r ∧ cirD r ≤ 3162 := by
  obtain ⟨a, b⟩ := sq_bound (a := r) (m := 1400) (by omega) (by omega)
  have c := rt_max (n := r * r / 2) (by omega) (by omega)
  exact ⟨a, by omega, by omega, by omega, c.1, c.2⟩

set_option maxHeartbeats 2000000 in
theorem specCir_no (x1 y1 r : Int) (hk : arOk x1 y1 r = false) (w : World) :
    Calls Try.prog 32 #[.agg #[.int .i64 x1, .int .i64 y1], .int .i64 r] w fun e w' => e = .returned (.tuple #[.slice none 0 0, .bool false]) ∧ Below w.heap.size w w' := by
  have H1 := Lib.hid hk
  clear hk
  go_enter Try.func32, Try.ntmps32
  go_wp2_with (first | (go_at_call 44; (refine (arGood_any _ _ _ _).mono ?_; rw [H1.out]; rintro e w1 ⟨rfl, hb1⟩; have hs1 := hb1.size; (try simp at hs1))))
  go_ret2
  exact ⟨rfl, (by repeat (first | exact Below.refl _ _ | assumption | refine Below.drew ?_ | refine below_drewN ?_ _ | refine Below.alloc ?_ (by first | omega | (simp; done) | (simp; omega)) _ | refine Below.setCell ?_ (by first | omega | (simp; done) | (simp; omega)) _ | refine Below.trans ?_ (Below.mono (by assumption) (by first | omega | (simp; done) | (simp; omega)))))⟩

set_option maxHeartbeats 2000000 in
theorem cir_no (x1 y1 r : Int) (hk : arOk x1 y1 r = false) (w : World) :
    Calls Try.prog 33 #[.agg #[.int .i64 x1, .int .i64 y1], .int .i64 r] w fun e w' => e = .returned (.tuple #[.slice none 0 0, .bool false]) ∧ Below w.heap.size w w' := by
  have H1 := Lib.hid hk
  clear hk
  go_enter Try.func33, Try.ntmps33
  go_wp2_with (first | (go_at_call 46; (refine (isArc_any _ _ _ _).mono ?_; rw [H1.out]; rintro e w1 ⟨rfl, hb1⟩; have hs1 := hb1.size; (try simp at hs1))))
  go_ret2
  exact ⟨rfl, (by repeat (first | exact Below.refl _ _ | assumption | refine Below.drew ?_ | refine below_drewN ?_ _ | refine Below.alloc ?_ (by first | omega | (simp; done) | (simp; omega)) _ | refine Below.setCell ?_ (by first | omega | (simp; done) | (simp; omega)) _ | refine Below.trans ?_ (Below.mono (by assumption) (by first | omega | (simp; done) | (simp; omega)))))⟩

set_option maxHeartbeats 4000000 in
theorem cir_yes (x1 y1 r : Int) (h1 : arOk x1 y1 r = true) (w : World) :
    Calls Try.prog 33 #[.agg #[.int .i64 x1, .int .i64 y1], .int .i64 r] w fun e w' => ∃ v, e = .returned (.tuple #[v, .bool (allOn (cirTo x1 y1 r (cirD r) 8))]) ∧ OwnPairs 27 w' w.heap.size v (onIf (cirTo x1 y1 r (cirD r) 8)) ∧ Below w.heap.size w w' := by
  obtain ⟨j0, hi, hz0, hz1, hz2⟩ := info_parts Try.infoSpot
  have HI := Lib.hid hi
  have HZ0 := Lib.hid hz0
  have HZ1 := Lib.hid hz1
  have HZ2 := Lib.hid hz2
  clear hi hz0 hz1 hz2
  obtain ⟨o1, r1, r2⟩ := arOk_parts h1
  obtain ⟨⟨p1, p2⟩, p3, p4⟩ := onField_iff.1 o1
  have HO1 := Lib.hid h1
  obtain ⟨c1, c2, c3, c4, c5, c6⟩ := cirD_bound r1 r2
  have v1 : IntKind.i64.wrap (r * r) = r * r := IntWalk.i64_in _ (by omega)
  have HRT := Lib.hid (fun W => wholeRoot_any (r * r / 2) c3 (by omega) W)
  have e0 : rt (r * r / 2) = cirD r := rfl
  rw [e0] at HRT
  have hlen : (cirTo x1 y1 r (cirD r) 8).length ≤ 40 := by rw [cirTo_length]; omega
  obtain ⟨d, hd⟩ : ∃ d, d = cirD r := ⟨_, rfl⟩
  rw [← hd] at HRT c5 c6 hlen ⊢
  obtain ⟨L, hL⟩ : ∃ L, L = cirTo x1 y1 r d := ⟨_, rfl⟩
  have HL0 := Lib.hid (show L 0 = [] by rw [hL]; rfl)
  have HLS := Lib.hid (show ∀ k : Nat, L (k + 1) = L k ++ [(x1 + sx (cirW r d) k, y1 + sy (cirW r d) k)] by rw [hL]; intro k; rfl)
  have HLN := Lib.hid (show ∀ k, (L k).length = k by rw [hL]; intro k; exact cirTo_length _ _ _ _ k)
  rw [← hL] at hlen ⊢
  have w1' : IntKind.i64.wrap (-r) = -r := IntWalk.i64_in _ (by omega)
  have w2' : IntKind.i64.wrap (-d) = -d := IntWalk.i64_in _ (by omega)
  obtain ⟨h, hh⟩ : ∃ h, h = r * r / 2 := ⟨_, rfl⟩
  obtain ⟨rr, hrr⟩ : ∃ rr, rr = r * r := ⟨_, rfl⟩
  have hL' := hL
  clear hL hd e0 h1 o1
  have HSO := Lib.hid (fun W b v ho => spotsOf (w := W) (base := b) (v := v) hlen ho)
  clear hlen hL'
  go_enter Try.func33, Try.ntmps33
  go_wp2_with (first | (go_at_call 46; (refine (isArc_any _ _ _ _).mono ?_; rw [HO1.out]; rintro e w1 ⟨rfl, hb1⟩; have hs1 := hb1.size; (try simp at hs1); have d0 : w1.cell? ⟨w.heap.size, 0, none⟩ = some (.int .i64 x1) := (hb1.cell (p := ⟨w.heap.size, 0, none⟩) (by first | omega | (simp; done) | (simp; omega))).trans (by go_simp); have d1 : w1.cell? ⟨w.heap.size, 1, none⟩ = some (.int .i64 y1) := (hb1.cell (p := ⟨w.heap.size, 1, none⟩) (by first | omega | (simp; done) | (simp; omega))).trans (by go_simp))) | (go_at_call 43; ((refine (HRT.out _).mono ?_); rintro e w' ⟨rfl, rfl⟩)))
  have hbw : Below w.heap.size w w1 := (by repeat (first | exact Below.refl _ _ | assumption | refine Below.drew ?_ | refine below_drewN ?_ _ | refine Below.alloc ?_ (by first | omega | (simp; done) | (simp; omega)) _ | refine Below.setCell ?_ (by first | omega | (simp; done) | (simp; omega)) _ | refine Below.trans ?_ (Below.mono (by assumption) (by first | omega | (simp; done) | (simp; omega)))))
  clear hb1
  go_loopw [8, 48] (fun ov i wr => ∃ (k : Nat) (vo : Value), k ≤ 8 ∧ i = .int .i64 k ∧ ov = vo ∧ Hid (OwnPairs 27 wr (w.heap.size + 1) vo (L k)) ∧ wr.cell? ⟨w.heap.size, 0, none⟩ = some (.int .i64 x1) ∧ wr.cell? ⟨w.heap.size, 1, none⟩ = some (.int .i64 y1) ∧ Below w.heap.size w wr ∧ w.heap.size + 1 ≤ wr.heap.size) (fun _ i _ => 8 - (intOf i).toNat)
  case atStart => exact ⟨0, _, Nat.zero_le _, rfl, rfl, Lib.hid (by rw [HL0.out]; exact own_nil _ _ _), (World.cell?_alloc_past _ _ _ (by omega)).trans d0, (World.cell?_alloc_past _ _ _ (by omega)).trans d1, (by repeat (first | exact Below.refl _ _ | assumption | refine Below.drew ?_ | refine below_drewN ?_ _ | refine Below.alloc ?_ (by first | omega | (simp; done) | (simp; omega)) _ | refine Below.setCell ?_ (by first | omega | (simp; done) | (simp; omega)) _ | refine Below.trans ?_ (Below.mono (by assumption) (by first | omega | (simp; done) | (simp; omega))))), (by first | omega | (simp; done) | (simp; omega))⟩
  case round =>
    clear d0 d1 hbw hs1
    obtain ⟨k, vo, hk, rfl, hv, HOWN, d0, d1, hbr, hws⟩ := hrel
    replace hv := hv.symm
    subst hv
    have hsr := hbr.size
    by_cases hlt : k < 8
    · have HOL := Lib.hid (World.ownsRow.lt HOWN.out)
      have HOWN2 := Lib.hid (fun (W : World) (hb : Below wr.heap.size wr W) => own_below HOWN.out hb)
      have n7 : w.heap.size < wr.heap.size := by omega
      have n8 : ¬ w.heap.size = wr.heap.size := by omega
      have n9 : ¬ wr.heap.size = w.heap.size := by omega
      have h8 : k = 0 ∨ k = 1 ∨ k = 2 ∨ k = 3 ∨ k = 4 ∨ k = 5 ∨ k = 6 ∨ k = 7 := by omega
      clear hk hlt
      rcases h8 with rfl | rfl | rfl | rfl | rfl | rfl | rfl | rfl
      · have hst := HLS.out 0
        rw [show sx (cirW r d) 0 = r from rfl, show sy (cirW r d) 0 = 0 from rfl] at hst
        try rw [Int.add_zero] at hst
        have HST := Lib.hid hst
        have HLL := Lib.hid (HLN.out 0)
        clear hst
        have x9 : IntKind.i64.wrap (x1 + r) = x1 + r := IntWalk.i64_in _ (by omega)
        have y9 : IntKind.i64.wrap (y1) = y1 := IntWalk.i64_in _ (by omega)
        have hix : ∀ W : World, (Instr.index 69 (.agg #[.int .i64 (r), .int .i64 (0), .int .i64 (d), .int .i64 (d), .int .i64 (0), .int .i64 (r), .int .i64 (-d), .int .i64 (d), .int .i64 (-r), .int .i64 (0), .int .i64 (-d), .int .i64 (-d), .int .i64 (0), .int .i64 (-r), .int .i64 (d), .int .i64 (-d)]) (.int .i64 0)).run Try.prog W = .ok (.agg #[.int .i64 (r), .int .i64 (0)]) W := fun W => by kernel_rfl
        go_upto_region 9 with fail
        obtain ⟨W1, hW1⟩ : ∃ W1, W1 = wr.alloc (.cells #[.int .i64 (r), .int .i64 (0)] 68) := ⟨_, rfl⟩
        have hbW : Below wr.heap.size wr W1 := by rw [hW1]; exact (Below.refl _ _).alloc (Nat.le_refl _) _
        have t0 : W1.cell? ⟨w.heap.size, 0, none⟩ = some (.int .i64 x1) := (hbW.cell (p := ⟨w.heap.size, 0, none⟩) n7).trans d0
        have t1 : W1.cell? ⟨w.heap.size, 1, none⟩ = some (.int .i64 y1) := (hbW.cell (p := ⟨w.heap.size, 1, none⟩) n7).trans d1
        have t2 : W1.cell? ⟨wr.heap.size, 0, none⟩ = some (.int .i64 (r)) := by rw [hW1, World.cell?_alloc_at _ _ _ _ rfl]; rfl
        have t3 : W1.cell? ⟨wr.heap.size, 1, none⟩ = some (.int .i64 (0)) := by rw [hW1, World.cell?_alloc_at _ _ _ _ rfl]; rfl
        have hsW := hbW.size
        have hb33 : Below w.heap.size w W1 := Below.trans hbr (Below.mono hbW hsr)
        rw [← hW1]
        clear hW1 hix
        obtain ⟨acc, hacc⟩ : ∃ acc, acc = L 0 := ⟨_, rfl⟩
        rw [← hacc] at HOWN HOWN2 HST HLL
        have hal := HLL.out
        have hal9 : acc.length ≤ 40 := by omega
        clear hacc
        go_wp2_with (at_builtin; refine wpList_append_lies _ rfl _ _ 33 rfl (w.heap.size + 1) 27 j0 (.agg #[.int .i64 0, .int .i64 0]) 2 16 Try.underlying33 HI.out HZ0.out HZ1.out HZ2.out rfl (by omega) vo (acc.length) (pairV acc) rfl (HOWN2.out _ (Below.alloc hbW hbW.size _)) ⟨_, 0, none⟩ 1 1 [.int .i64 (x1 + r), .int .i64 (y1)] rfl rfl (World.news_of_block (cs := #[.int .i64 (x1 + r), .int .i64 (y1)]) (t := 27) (fr := (0, 0)) (heap_alloc_new _ _)) (by simp [Value.oneCell']) (by omega) (by unfold maxLen; omega) (by omega) (by simp; omega) _ rfl ?_; intro gg cap5 w5 hown5 hgrow5 hat5 hlt5)
        have hne : ∀ b, b ≤ w.heap.size → some b ≠ vo.ownBlock := fun b hb e => by have := HOL.out b e.symm; omega
        have f0 : w5.cell? ⟨w.heap.size, 0, none⟩ = some (.int .i64 x1) := (hgrow5.cell_far ⟨w.heap.size, 0, none⟩ (by first | omega | (simp; done) | (simp; omega)) (hne _ (Nat.le_refl _))).trans ((World.cell?_alloc_past _ _ _ (by omega)).trans t0)
        have f1 : w5.cell? ⟨w.heap.size, 1, none⟩ = some (.int .i64 y1) := (hgrow5.cell_far ⟨w.heap.size, 1, none⟩ (by first | omega | (simp; done) | (simp; omega)) (hne _ (Nat.le_refl _))).trans ((World.cell?_alloc_past _ _ _ (by omega)).trans t1)
        have hb5 : Below w.heap.size w w5 := Below.grown (Below.alloc hb33 hb33.size _) hgrow5 (by first | (simp; omega) | omega) (fun q hq => by have := HOL.out q hq; omega)
        have hown6 : OwnPairs 27 w5 (w.heap.size + 1) (.slice (some ⟨gg, 0, none⟩) (acc.length + 1) cap5) (L 1) := by rw [HST.out, OwnPairs, pairV_append, List.length_append]; simpa [pairV] using hown5
        have hown7 : OwnPairs 27 w5 (w.heap.size + 1) (.slice (some ⟨gg, 0, none⟩) 1 cap5) (L 1) := by rw [hal] at hown6; exact hown6
        have HO6 := Lib.hid hown7
        have hs6 := hgrow5.size
        (try simp at hs6)
        clear hat5 hgrow5 hown5 hown6 hown7 hne t0 t1 t2 t3
        have hs5 := hb5.size
        go_wp2
        go_roundw
        case rel => exact ⟨1, _, by omega, by go_num, rfl, HO6, f0, f1, hb5, by omega⟩
        case measure => simp [intOf]
      · have hst := HLS.out 1
        rw [show sx (cirW r d) 1 = d from rfl, show sy (cirW r d) 1 = d from rfl] at hst
        try rw [Int.add_zero] at hst
        have HST := Lib.hid hst
        have HLL := Lib.hid (HLN.out 1)
        clear hst
        have x9 : IntKind.i64.wrap (x1 + d) = x1 + d := IntWalk.i64_in _ (by omega)
        have y9 : IntKind.i64.wrap (y1 + d) = y1 + d := IntWalk.i64_in _ (by omega)
        have hix : ∀ W : World, (Instr.index 69 (.agg #[.int .i64 (r), .int .i64 (0), .int .i64 (d), .int .i64 (d), .int .i64 (0), .int .i64 (r), .int .i64 (-d), .int .i64 (d), .int .i64 (-r), .int .i64 (0), .int .i64 (-d), .int .i64 (-d), .int .i64 (0), .int .i64 (-r), .int .i64 (d), .int .i64 (-d)]) (.int .i64 1)).run Try.prog W = .ok (.agg #[.int .i64 (d), .int .i64 (d)]) W := fun W => by kernel_rfl
        go_upto_region 9 with fail
        obtain ⟨W1, hW1⟩ : ∃ W1, W1 = wr.alloc (.cells #[.int .i64 (d), .int .i64 (d)] 68) := ⟨_, rfl⟩
        have hbW : Below wr.heap.size wr W1 := by rw [hW1]; exact (Below.refl _ _).alloc (Nat.le_refl _) _
        have t0 : W1.cell? ⟨w.heap.size, 0, none⟩ = some (.int .i64 x1) := (hbW.cell (p := ⟨w.heap.size, 0, none⟩) n7).trans d0
        have t1 : W1.cell? ⟨w.heap.size, 1, none⟩ = some (.int .i64 y1) := (hbW.cell (p := ⟨w.heap.size, 1, none⟩) n7).trans d1
        have t2 : W1.cell? ⟨wr.heap.size, 0, none⟩ = some (.int .i64 (d)) := by rw [hW1, World.cell?_alloc_at _ _ _ _ rfl]; rfl
        have t3 : W1.cell? ⟨wr.heap.size, 1, none⟩ = some (.int .i64 (d)) := by rw [hW1, World.cell?_alloc_at _ _ _ _ rfl]; rfl
        have hsW := hbW.size
        have hb33 : Below w.heap.size w W1 := Below.trans hbr (Below.mono hbW hsr)
        rw [← hW1]
        clear hW1 hix
        obtain ⟨acc, hacc⟩ : ∃ acc, acc = L 1 := ⟨_, rfl⟩
        rw [← hacc] at HOWN HOWN2 HST HLL
        have hal := HLL.out
        have hal9 : acc.length ≤ 40 := by omega
        clear hacc
        go_wp2_with (at_builtin; refine wpList_append_lies _ rfl _ _ 33 rfl (w.heap.size + 1) 27 j0 (.agg #[.int .i64 0, .int .i64 0]) 2 16 Try.underlying33 HI.out HZ0.out HZ1.out HZ2.out rfl (by omega) vo (acc.length) (pairV acc) rfl (HOWN2.out _ (Below.alloc hbW hbW.size _)) ⟨_, 0, none⟩ 1 1 [.int .i64 (x1 + d), .int .i64 (y1 + d)] rfl rfl (World.news_of_block (cs := #[.int .i64 (x1 + d), .int .i64 (y1 + d)]) (t := 27) (fr := (0, 0)) (heap_alloc_new _ _)) (by simp [Value.oneCell']) (by omega) (by unfold maxLen; omega) (by omega) (by simp; omega) _ rfl ?_; intro gg cap5 w5 hown5 hgrow5 hat5 hlt5)
        have hne : ∀ b, b ≤ w.heap.size → some b ≠ vo.ownBlock := fun b hb e => by have := HOL.out b e.symm; omega
        have f0 : w5.cell? ⟨w.heap.size, 0, none⟩ = some (.int .i64 x1) := (hgrow5.cell_far ⟨w.heap.size, 0, none⟩ (by first | omega | (simp; done) | (simp; omega)) (hne _ (Nat.le_refl _))).trans ((World.cell?_alloc_past _ _ _ (by omega)).trans t0)
        have f1 : w5.cell? ⟨w.heap.size, 1, none⟩ = some (.int .i64 y1) := (hgrow5.cell_far ⟨w.heap.size, 1, none⟩ (by first | omega | (simp; done) | (simp; omega)) (hne _ (Nat.le_refl _))).trans ((World.cell?_alloc_past _ _ _ (by omega)).trans t1)
        have hb5 : Below w.heap.size w w5 := Below.grown (Below.alloc hb33 hb33.size _) hgrow5 (by first | (simp; omega) | omega) (fun q hq => by have := HOL.out q hq; omega)
        have hown6 : OwnPairs 27 w5 (w.heap.size + 1) (.slice (some ⟨gg, 0, none⟩) (acc.length + 1) cap5) (L 2) := by rw [HST.out, OwnPairs, pairV_append, List.length_append]; simpa [pairV] using hown5
        have hown7 : OwnPairs 27 w5 (w.heap.size + 1) (.slice (some ⟨gg, 0, none⟩) 2 cap5) (L 2) := by rw [hal] at hown6; exact hown6
        have HO6 := Lib.hid hown7
        have hs6 := hgrow5.size
        (try simp at hs6)
        clear hat5 hgrow5 hown5 hown6 hown7 hne t0 t1 t2 t3
        have hs5 := hb5.size
        go_wp2
        go_roundw
        case rel => exact ⟨2, _, by omega, by go_num, rfl, HO6, f0, f1, hb5, by omega⟩
        case measure => simp [intOf]
      · have hst := HLS.out 2
        rw [show sx (cirW r d) 2 = 0 from rfl, show sy (cirW r d) 2 = r from rfl] at hst
        try rw [Int.add_zero] at hst
        have HST := Lib.hid hst
        have HLL := Lib.hid (HLN.out 2)
        clear hst
        have x9 : IntKind.i64.wrap (x1) = x1 := IntWalk.i64_in _ (by omega)
        have y9 : IntKind.i64.wrap (y1 + r) = y1 + r := IntWalk.i64_in _ (by omega)
        have hix : ∀ W : World, (Instr.index 69 (.agg #[.int .i64 (r), .int .i64 (0), .int .i64 (d), .int .i64 (d), .int .i64 (0), .int .i64 (r), .int .i64 (-d), .int .i64 (d), .int .i64 (-r), .int .i64 (0), .int .i64 (-d), .int .i64 (-d), .int .i64 (0), .int .i64 (-r), .int .i64 (d), .int .i64 (-d)]) (.int .i64 2)).run Try.prog W = .ok (.agg #[.int .i64 (0), .int .i64 (r)]) W := fun W => by kernel_rfl
        go_upto_region 9 with fail
        obtain ⟨W1, hW1⟩ : ∃ W1, W1 = wr.alloc (.cells #[.int .i64 (0), .int .i64 (r)] 68) := ⟨_, rfl⟩
        have hbW : Below wr.heap.size wr W1 := by rw [hW1]; exact (Below.refl _ _).alloc (Nat.le_refl _) _
        have t0 : W1.cell? ⟨w.heap.size, 0, none⟩ = some (.int .i64 x1) := (hbW.cell (p := ⟨w.heap.size, 0, none⟩) n7).trans d0
        have t1 : W1.cell? ⟨w.heap.size, 1, none⟩ = some (.int .i64 y1) := (hbW.cell (p := ⟨w.heap.size, 1, none⟩) n7).trans d1
        have t2 : W1.cell? ⟨wr.heap.size, 0, none⟩ = some (.int .i64 (0)) := by rw [hW1, World.cell?_alloc_at _ _ _ _ rfl]; rfl
        have t3 : W1.cell? ⟨wr.heap.size, 1, none⟩ = some (.int .i64 (r)) := by rw [hW1, World.cell?_alloc_at _ _ _ _ rfl]; rfl
        have hsW := hbW.size
        have hb33 : Below w.heap.size w W1 := Below.trans hbr (Below.mono hbW hsr)
        rw [← hW1]
        clear hW1 hix
        obtain ⟨acc, hacc⟩ : ∃ acc, acc = L 2 := ⟨_, rfl⟩
        rw [← hacc] at HOWN HOWN2 HST HLL
        have hal := HLL.out
        have hal9 : acc.length ≤ 40 := by omega
        clear hacc
        go_wp2_with (at_builtin; refine wpList_append_lies _ rfl _ _ 33 rfl (w.heap.size + 1) 27 j0 (.agg #[.int .i64 0, .int .i64 0]) 2 16 Try.underlying33 HI.out HZ0.out HZ1.out HZ2.out rfl (by omega) vo (acc.length) (pairV acc) rfl (HOWN2.out _ (Below.alloc hbW hbW.size _)) ⟨_, 0, none⟩ 1 1 [.int .i64 (x1), .int .i64 (y1 + r)] rfl rfl (World.news_of_block (cs := #[.int .i64 (x1), .int .i64 (y1 + r)]) (t := 27) (fr := (0, 0)) (heap_alloc_new _ _)) (by simp [Value.oneCell']) (by omega) (by unfold maxLen; omega) (by omega) (by simp; omega) _ rfl ?_; intro gg cap5 w5 hown5 hgrow5 hat5 hlt5)
        have hne : ∀ b, b ≤ w.heap.size → some b ≠ vo.ownBlock := fun b hb e => by have := HOL.out b e.symm; omega
        have f0 : w5.cell? ⟨w.heap.size, 0, none⟩ = some (.int .i64 x1) := (hgrow5.cell_far ⟨w.heap.size, 0, none⟩ (by first | omega | (simp; done) | (simp; omega)) (hne _ (Nat.le_refl _))).trans ((World.cell?_alloc_past _ _ _ (by omega)).trans t0)
        have f1 : w5.cell? ⟨w.heap.size, 1, none⟩ = some (.int .i64 y1) := (hgrow5.cell_far ⟨w.heap.size, 1, none⟩ (by first | omega | (simp; done) | (simp; omega)) (hne _ (Nat.le_refl _))).trans ((World.cell?_alloc_past _ _ _ (by omega)).trans t1)
        have hb5 : Below w.heap.size w w5 := Below.grown (Below.alloc hb33 hb33.size _) hgrow5 (by first | (simp; omega) | omega) (fun q hq => by have := HOL.out q hq; omega)
        have hown6 : OwnPairs 27 w5 (w.heap.size + 1) (.slice (some ⟨gg, 0, none⟩) (acc.length + 1) cap5) (L 3) := by rw [HST.out, OwnPairs, pairV_append, List.length_append]; simpa [pairV] using hown5
        have hown7 : OwnPairs 27 w5 (w.heap.size + 1) (.slice (some ⟨gg, 0, none⟩) 3 cap5) (L 3) := by rw [hal] at hown6; exact hown6
        have HO6 := Lib.hid hown7
        have hs6 := hgrow5.size
        (try simp at hs6)
        clear hat5 hgrow5 hown5 hown6 hown7 hne t0 t1 t2 t3
        have hs5 := hb5.size
        go_wp2
        go_roundw
        case rel => exact ⟨3, _, by omega, by go_num, rfl, HO6, f0, f1, hb5, by omega⟩
        case measure => simp [intOf]
      · have hst := HLS.out 3
        rw [show sx (cirW r d) 3 = -d from rfl, show sy (cirW r d) 3 = d from rfl] at hst
        try rw [Int.add_zero] at hst
        have HST := Lib.hid hst
        have HLL := Lib.hid (HLN.out 3)
        clear hst
        have x9 : IntKind.i64.wrap (x1 + -d) = x1 + -d := IntWalk.i64_in _ (by omega)
        have y9 : IntKind.i64.wrap (y1 + d) = y1 + d := IntWalk.i64_in _ (by omega)
        have hix : ∀ W : World, (Instr.index 69 (.agg #[.int .i64 (r), .int .i64 (0), .int .i64 (d), .int .i64 (d), .int .i64 (0), .int .i64 (r), .int .i64 (-d), .int .i64 (d), .int .i64 (-r), .int .i64 (0), .int .i64 (-d), .int .i64 (-d), .int .i64 (0), .int .i64 (-r), .int .i64 (d), .int .i64 (-d)]) (.int .i64 3)).run Try.prog W = .ok (.agg #[.int .i64 (-d), .int .i64 (d)]) W := fun W => by kernel_rfl
        go_upto_region 9 with fail
        obtain ⟨W1, hW1⟩ : ∃ W1, W1 = wr.alloc (.cells #[.int .i64 (-d), .int .i64 (d)] 68) := ⟨_, rfl⟩
        have hbW : Below wr.heap.size wr W1 := by rw [hW1]; exact (Below.refl _ _).alloc (Nat.le_refl _) _
        have t0 : W1.cell? ⟨w.heap.size, 0, none⟩ = some (.int .i64 x1) := (hbW.cell (p := ⟨w.heap.size, 0, none⟩) n7).trans d0
        have t1 : W1.cell? ⟨w.heap.size, 1, none⟩ = some (.int .i64 y1) := (hbW.cell (p := ⟨w.heap.size, 1, none⟩) n7).trans d1
        have t2 : W1.cell? ⟨wr.heap.size, 0, none⟩ = some (.int .i64 (-d)) := by rw [hW1, World.cell?_alloc_at _ _ _ _ rfl]; rfl
        have t3 : W1.cell? ⟨wr.heap.size, 1, none⟩ = some (.int .i64 (d)) := by rw [hW1, World.cell?_alloc_at _ _ _ _ rfl]; rfl
        have hsW := hbW.size
        have hb33 : Below w.heap.size w W1 := Below.trans hbr (Below.mono hbW hsr)
        rw [← hW1]
        clear hW1 hix
        obtain ⟨acc, hacc⟩ : ∃ acc, acc = L 3 := ⟨_, rfl⟩
        rw [← hacc] at HOWN HOWN2 HST HLL
        have hal := HLL.out
        have hal9 : acc.length ≤ 40 := by omega
        clear hacc
        go_wp2_with (at_builtin; refine wpList_append_lies _ rfl _ _ 33 rfl (w.heap.size + 1) 27 j0 (.agg #[.int .i64 0, .int .i64 0]) 2 16 Try.underlying33 HI.out HZ0.out HZ1.out HZ2.out rfl (by omega) vo (acc.length) (pairV acc) rfl (HOWN2.out _ (Below.alloc hbW hbW.size _)) ⟨_, 0, none⟩ 1 1 [.int .i64 (x1 + -d), .int .i64 (y1 + d)] rfl rfl (World.news_of_block (cs := #[.int .i64 (x1 + -d), .int .i64 (y1 + d)]) (t := 27) (fr := (0, 0)) (heap_alloc_new _ _)) (by simp [Value.oneCell']) (by omega) (by unfold maxLen; omega) (by omega) (by simp; omega) _ rfl ?_; intro gg cap5 w5 hown5 hgrow5 hat5 hlt5)
        have hne : ∀ b, b ≤ w.heap.size → some b ≠ vo.ownBlock := fun b hb e => by have := HOL.out b e.symm; omega
        have f0 : w5.cell? ⟨w.heap.size, 0, none⟩ = some (.int .i64 x1) := (hgrow5.cell_far ⟨w.heap.size, 0, none⟩ (by first | omega | (simp; done) | (simp; omega)) (hne _ (Nat.le_refl _))).trans ((World.cell?_alloc_past _ _ _ (by omega)).trans t0)
        have f1 : w5.cell? ⟨w.heap.size, 1, none⟩ = some (.int .i64 y1) := (hgrow5.cell_far ⟨w.heap.size, 1, none⟩ (by first | omega | (simp; done) | (simp; omega)) (hne _ (Nat.le_refl _))).trans ((World.cell?_alloc_past _ _ _ (by omega)).trans t1)
        have hb5 : Below w.heap.size w w5 := Below.grown (Below.alloc hb33 hb33.size _) hgrow5 (by first | (simp; omega) | omega) (fun q hq => by have := HOL.out q hq; omega)
        have hown6 : OwnPairs 27 w5 (w.heap.size + 1) (.slice (some ⟨gg, 0, none⟩) (acc.length + 1) cap5) (L 4) := by rw [HST.out, OwnPairs, pairV_append, List.length_append]; simpa [pairV] using hown5
        have hown7 : OwnPairs 27 w5 (w.heap.size + 1) (.slice (some ⟨gg, 0, none⟩) 4 cap5) (L 4) := by rw [hal] at hown6; exact hown6
        have HO6 := Lib.hid hown7
        have hs6 := hgrow5.size
        (try simp at hs6)
        clear hat5 hgrow5 hown5 hown6 hown7 hne t0 t1 t2 t3
        have hs5 := hb5.size
        go_wp2
        go_roundw
        case rel => exact ⟨4, _, by omega, by go_num, rfl, HO6, f0, f1, hb5, by omega⟩
        case measure => simp [intOf]
      · have hst := HLS.out 4
        rw [show sx (cirW r d) 4 = -r from rfl, show sy (cirW r d) 4 = 0 from rfl] at hst
        try rw [Int.add_zero] at hst
        have HST := Lib.hid hst
        have HLL := Lib.hid (HLN.out 4)
        clear hst
        have x9 : IntKind.i64.wrap (x1 + -r) = x1 + -r := IntWalk.i64_in _ (by omega)
        have y9 : IntKind.i64.wrap (y1) = y1 := IntWalk.i64_in _ (by omega)
        have hix : ∀ W : World, (Instr.index 69 (.agg #[.int .i64 (r), .int .i64 (0), .int .i64 (d), .int .i64 (d), .int .i64 (0), .int .i64 (r), .int .i64 (-d), .int .i64 (d), .int .i64 (-r), .int .i64 (0), .int .i64 (-d), .int .i64 (-d), .int .i64 (0), .int .i64 (-r), .int .i64 (d), .int .i64 (-d)]) (.int .i64 4)).run Try.prog W = .ok (.agg #[.int .i64 (-r), .int .i64 (0)]) W := fun W => by kernel_rfl
        go_upto_region 9 with fail
        obtain ⟨W1, hW1⟩ : ∃ W1, W1 = wr.alloc (.cells #[.int .i64 (-r), .int .i64 (0)] 68) := ⟨_, rfl⟩
        have hbW : Below wr.heap.size wr W1 := by rw [hW1]; exact (Below.refl _ _).alloc (Nat.le_refl _) _
        have t0 : W1.cell? ⟨w.heap.size, 0, none⟩ = some (.int .i64 x1) := (hbW.cell (p := ⟨w.heap.size, 0, none⟩) n7).trans d0
        have t1 : W1.cell? ⟨w.heap.size, 1, none⟩ = some (.int .i64 y1) := (hbW.cell (p := ⟨w.heap.size, 1, none⟩) n7).trans d1
        have t2 : W1.cell? ⟨wr.heap.size, 0, none⟩ = some (.int .i64 (-r)) := by rw [hW1, World.cell?_alloc_at _ _ _ _ rfl]; rfl
        have t3 : W1.cell? ⟨wr.heap.size, 1, none⟩ = some (.int .i64 (0)) := by rw [hW1, World.cell?_alloc_at _ _ _ _ rfl]; rfl
        have hsW := hbW.size
        have hb33 : Below w.heap.size w W1 := Below.trans hbr (Below.mono hbW hsr)
        rw [← hW1]
        clear hW1 hix
        obtain ⟨acc, hacc⟩ : ∃ acc, acc = L 4 := ⟨_, rfl⟩
        rw [← hacc] at HOWN HOWN2 HST HLL
        have hal := HLL.out
        have hal9 : acc.length ≤ 40 := by omega
        clear hacc
        go_wp2_with (at_builtin; refine wpList_append_lies _ rfl _ _ 33 rfl (w.heap.size + 1) 27 j0 (.agg #[.int .i64 0, .int .i64 0]) 2 16 Try.underlying33 HI.out HZ0.out HZ1.out HZ2.out rfl (by omega) vo (acc.length) (pairV acc) rfl (HOWN2.out _ (Below.alloc hbW hbW.size _)) ⟨_, 0, none⟩ 1 1 [.int .i64 (x1 + -r), .int .i64 (y1)] rfl rfl (World.news_of_block (cs := #[.int .i64 (x1 + -r), .int .i64 (y1)]) (t := 27) (fr := (0, 0)) (heap_alloc_new _ _)) (by simp [Value.oneCell']) (by omega) (by unfold maxLen; omega) (by omega) (by simp; omega) _ rfl ?_; intro gg cap5 w5 hown5 hgrow5 hat5 hlt5)
        have hne : ∀ b, b ≤ w.heap.size → some b ≠ vo.ownBlock := fun b hb e => by have := HOL.out b e.symm; omega
        have f0 : w5.cell? ⟨w.heap.size, 0, none⟩ = some (.int .i64 x1) := (hgrow5.cell_far ⟨w.heap.size, 0, none⟩ (by first | omega | (simp; done) | (simp; omega)) (hne _ (Nat.le_refl _))).trans ((World.cell?_alloc_past _ _ _ (by omega)).trans t0)
        have f1 : w5.cell? ⟨w.heap.size, 1, none⟩ = some (.int .i64 y1) := (hgrow5.cell_far ⟨w.heap.size, 1, none⟩ (by first | omega | (simp; done) | (simp; omega)) (hne _ (Nat.le_refl _))).trans ((World.cell?_alloc_past _ _ _ (by omega)).trans t1)
        have hb5 : Below w.heap.size w w5 := Below.grown (Below.alloc hb33 hb33.size _) hgrow5 (by first | (simp; omega) | omega) (fun q hq => by have := HOL.out q hq; omega)
        have hown6 : OwnPairs 27 w5 (w.heap.size + 1) (.slice (some ⟨gg, 0, none⟩) (acc.length + 1) cap5) (L 5) := by rw [HST.out, OwnPairs, pairV_append, List.length_append]; simpa [pairV] using hown5
        have hown7 : OwnPairs 27 w5 (w.heap.size + 1) (.slice (some ⟨gg, 0, none⟩) 5 cap5) (L 5) := by rw [hal] at hown6; exact hown6
        have HO6 := Lib.hid hown7
        have hs6 := hgrow5.size
        (try simp at hs6)
        clear hat5 hgrow5 hown5 hown6 hown7 hne t0 t1 t2 t3
        have hs5 := hb5.size
        go_wp2
        go_roundw
        case rel => exact ⟨5, _, by omega, by go_num, rfl, HO6, f0, f1, hb5, by omega⟩
        case measure => simp [intOf]
      · have hst := HLS.out 5
        rw [show sx (cirW r d) 5 = -d from rfl, show sy (cirW r d) 5 = -d from rfl] at hst
        try rw [Int.add_zero] at hst
        have HST := Lib.hid hst
        have HLL := Lib.hid (HLN.out 5)
        clear hst
        have x9 : IntKind.i64.wrap (x1 + -d) = x1 + -d := IntWalk.i64_in _ (by omega)
        have y9 : IntKind.i64.wrap (y1 + -d) = y1 + -d := IntWalk.i64_in _ (by omega)
        have hix : ∀ W : World, (Instr.index 69 (.agg #[.int .i64 (r), .int .i64 (0), .int .i64 (d), .int .i64 (d), .int .i64 (0), .int .i64 (r), .int .i64 (-d), .int .i64 (d), .int .i64 (-r), .int .i64 (0), .int .i64 (-d), .int .i64 (-d), .int .i64 (0), .int .i64 (-r), .int .i64 (d), .int .i64 (-d)]) (.int .i64 5)).run Try.prog W = .ok (.agg #[.int .i64 (-d), .int .i64 (-d)]) W := fun W => by kernel_rfl
        go_upto_region 9 with fail
        obtain ⟨W1, hW1⟩ : ∃ W1, W1 = wr.alloc (.cells #[.int .i64 (-d), .int .i64 (-d)] 68) := ⟨_, rfl⟩
        have hbW : Below wr.heap.size wr W1 := by rw [hW1]; exact (Below.refl _ _).alloc (Nat.le_refl _) _
        have t0 : W1.cell? ⟨w.heap.size, 0, none⟩ = some (.int .i64 x1) := (hbW.cell (p := ⟨w.heap.size, 0, none⟩) n7).trans d0
        have t1 : W1.cell? ⟨w.heap.size, 1, none⟩ = some (.int .i64 y1) := (hbW.cell (p := ⟨w.heap.size, 1, none⟩) n7).trans d1
        have t2 : W1.cell? ⟨wr.heap.size, 0, none⟩ = some (.int .i64 (-d)) := by rw [hW1, World.cell?_alloc_at _ _ _ _ rfl]; rfl
        have t3 : W1.cell? ⟨wr.heap.size, 1, none⟩ = some (.int .i64 (-d)) := by rw [hW1, World.cell?_alloc_at _ _ _ _ rfl]; rfl
        have hsW := hbW.size
        have hb33 : Below w.heap.size w W1 := Below.trans hbr (Below.mono hbW hsr)
        rw [← hW1]
        clear hW1 hix
        obtain ⟨acc, hacc⟩ : ∃ acc, acc = L 5 := ⟨_, rfl⟩
        rw [← hacc] at HOWN HOWN2 HST HLL
        have hal := HLL.out
        have hal9 : acc.length ≤ 40 := by omega
        clear hacc
        go_wp2_with (at_builtin; refine wpList_append_lies _ rfl _ _ 33 rfl (w.heap.size + 1) 27 j0 (.agg #[.int .i64 0, .int .i64 0]) 2 16 Try.underlying33 HI.out HZ0.out HZ1.out HZ2.out rfl (by omega) vo (acc.length) (pairV acc) rfl (HOWN2.out _ (Below.alloc hbW hbW.size _)) ⟨_, 0, none⟩ 1 1 [.int .i64 (x1 + -d), .int .i64 (y1 + -d)] rfl rfl (World.news_of_block (cs := #[.int .i64 (x1 + -d), .int .i64 (y1 + -d)]) (t := 27) (fr := (0, 0)) (heap_alloc_new _ _)) (by simp [Value.oneCell']) (by omega) (by unfold maxLen; omega) (by omega) (by simp; omega) _ rfl ?_; intro gg cap5 w5 hown5 hgrow5 hat5 hlt5)
        have hne : ∀ b, b ≤ w.heap.size → some b ≠ vo.ownBlock := fun b hb e => by have := HOL.out b e.symm; omega
        have f0 : w5.cell? ⟨w.heap.size, 0, none⟩ = some (.int .i64 x1) := (hgrow5.cell_far ⟨w.heap.size, 0, none⟩ (by first | omega | (simp; done) | (simp; omega)) (hne _ (Nat.le_refl _))).trans ((World.cell?_alloc_past _ _ _ (by omega)).trans t0)
        have f1 : w5.cell? ⟨w.heap.size, 1, none⟩ = some (.int .i64 y1) := (hgrow5.cell_far ⟨w.heap.size, 1, none⟩ (by first | omega | (simp; done) | (simp; omega)) (hne _ (Nat.le_refl _))).trans ((World.cell?_alloc_past _ _ _ (by omega)).trans t1)
        have hb5 : Below w.heap.size w w5 := Below.grown (Below.alloc hb33 hb33.size _) hgrow5 (by first | (simp; omega) | omega) (fun q hq => by have := HOL.out q hq; omega)
        have hown6 : OwnPairs 27 w5 (w.heap.size + 1) (.slice (some ⟨gg, 0, none⟩) (acc.length + 1) cap5) (L 6) := by rw [HST.out, OwnPairs, pairV_append, List.length_append]; simpa [pairV] using hown5
        have hown7 : OwnPairs 27 w5 (w.heap.size + 1) (.slice (some ⟨gg, 0, none⟩) 6 cap5) (L 6) := by rw [hal] at hown6; exact hown6
        have HO6 := Lib.hid hown7
        have hs6 := hgrow5.size
        (try simp at hs6)
        clear hat5 hgrow5 hown5 hown6 hown7 hne t0 t1 t2 t3
        have hs5 := hb5.size
        go_wp2
        go_roundw
        case rel => exact ⟨6, _, by omega, by go_num, rfl, HO6, f0, f1, hb5, by omega⟩
        case measure => simp [intOf]
      · have hst := HLS.out 6
        rw [show sx (cirW r d) 6 = 0 from rfl, show sy (cirW r d) 6 = -r from rfl] at hst
        try rw [Int.add_zero] at hst
        have HST := Lib.hid hst
        have HLL := Lib.hid (HLN.out 6)
        clear hst
        have x9 : IntKind.i64.wrap (x1) = x1 := IntWalk.i64_in _ (by omega)
        have y9 : IntKind.i64.wrap (y1 + -r) = y1 + -r := IntWalk.i64_in _ (by omega)
        have hix : ∀ W : World, (Instr.index 69 (.agg #[.int .i64 (r), .int .i64 (0), .int .i64 (d), .int .i64 (d), .int .i64 (0), .int .i64 (r), .int .i64 (-d), .int .i64 (d), .int .i64 (-r), .int .i64 (0), .int .i64 (-d), .int .i64 (-d), .int .i64 (0), .int .i64 (-r), .int .i64 (d), .int .i64 (-d)]) (.int .i64 6)).run Try.prog W = .ok (.agg #[.int .i64 (0), .int .i64 (-r)]) W := fun W => by kernel_rfl
        go_upto_region 9 with fail
        obtain ⟨W1, hW1⟩ : ∃ W1, W1 = wr.alloc (.cells #[.int .i64 (0), .int .i64 (-r)] 68) := ⟨_, rfl⟩
        have hbW : Below wr.heap.size wr W1 := by rw [hW1]; exact (Below.refl _ _).alloc (Nat.le_refl _) _
        have t0 : W1.cell? ⟨w.heap.size, 0, none⟩ = some (.int .i64 x1) := (hbW.cell (p := ⟨w.heap.size, 0, none⟩) n7).trans d0
        have t1 : W1.cell? ⟨w.heap.size, 1, none⟩ = some (.int .i64 y1) := (hbW.cell (p := ⟨w.heap.size, 1, none⟩) n7).trans d1
        have t2 : W1.cell? ⟨wr.heap.size, 0, none⟩ = some (.int .i64 (0)) := by rw [hW1, World.cell?_alloc_at _ _ _ _ rfl]; rfl
        have t3 : W1.cell? ⟨wr.heap.size, 1, none⟩ = some (.int .i64 (-r)) := by rw [hW1, World.cell?_alloc_at _ _ _ _ rfl]; rfl
        have hsW := hbW.size
        have hb33 : Below w.heap.size w W1 := Below.trans hbr (Below.mono hbW hsr)
        rw [← hW1]
        clear hW1 hix
        obtain ⟨acc, hacc⟩ : ∃ acc, acc = L 6 := ⟨_, rfl⟩
        rw [← hacc] at HOWN HOWN2 HST HLL
        have hal := HLL.out
        have hal9 : acc.length ≤ 40 := by omega
        clear hacc
        go_wp2_with (at_builtin; refine wpList_append_lies _ rfl _ _ 33 rfl (w.heap.size + 1) 27 j0 (.agg #[.int .i64 0, .int .i64 0]) 2 16 Try.underlying33 HI.out HZ0.out HZ1.out HZ2.out rfl (by omega) vo (acc.length) (pairV acc) rfl (HOWN2.out _ (Below.alloc hbW hbW.size _)) ⟨_, 0, none⟩ 1 1 [.int .i64 (x1), .int .i64 (y1 + -r)] rfl rfl (World.news_of_block (cs := #[.int .i64 (x1), .int .i64 (y1 + -r)]) (t := 27) (fr := (0, 0)) (heap_alloc_new _ _)) (by simp [Value.oneCell']) (by omega) (by unfold maxLen; omega) (by omega) (by simp; omega) _ rfl ?_; intro gg cap5 w5 hown5 hgrow5 hat5 hlt5)
        have hne : ∀ b, b ≤ w.heap.size → some b ≠ vo.ownBlock := fun b hb e => by have := HOL.out b e.symm; omega
        have f0 : w5.cell? ⟨w.heap.size, 0, none⟩ = some (.int .i64 x1) := (hgrow5.cell_far ⟨w.heap.size, 0, none⟩ (by first | omega | (simp; done) | (simp; omega)) (hne _ (Nat.le_refl _))).trans ((World.cell?_alloc_past _ _ _ (by omega)).trans t0)
        have f1 : w5.cell? ⟨w.heap.size, 1, none⟩ = some (.int .i64 y1) := (hgrow5.cell_far ⟨w.heap.size, 1, none⟩ (by first | omega | (simp; done) | (simp; omega)) (hne _ (Nat.le_refl _))).trans ((World.cell?_alloc_past _ _ _ (by omega)).trans t1)
        have hb5 : Below w.heap.size w w5 := Below.grown (Below.alloc hb33 hb33.size _) hgrow5 (by first | (simp; omega) | omega) (fun q hq => by have := HOL.out q hq; omega)
        have hown6 : OwnPairs 27 w5 (w.heap.size + 1) (.slice (some ⟨gg, 0, none⟩) (acc.length + 1) cap5) (L 7) := by rw [HST.out, OwnPairs, pairV_append, List.length_append]; simpa [pairV] using hown5
        have hown7 : OwnPairs 27 w5 (w.heap.size + 1) (.slice (some ⟨gg, 0, none⟩) 7 cap5) (L 7) := by rw [hal] at hown6; exact hown6
        have HO6 := Lib.hid hown7
        have hs6 := hgrow5.size
        (try simp at hs6)
        clear hat5 hgrow5 hown5 hown6 hown7 hne t0 t1 t2 t3
        have hs5 := hb5.size
        go_wp2
        go_roundw
        case rel => exact ⟨7, _, by omega, by go_num, rfl, HO6, f0, f1, hb5, by omega⟩
        case measure => simp [intOf]
      · have hst := HLS.out 7
        rw [show sx (cirW r d) 7 = d from rfl, show sy (cirW r d) 7 = -d from rfl] at hst
        try rw [Int.add_zero] at hst
        have HST := Lib.hid hst
        have HLL := Lib.hid (HLN.out 7)
        clear hst
        have x9 : IntKind.i64.wrap (x1 + d) = x1 + d := IntWalk.i64_in _ (by omega)
        have y9 : IntKind.i64.wrap (y1 + -d) = y1 + -d := IntWalk.i64_in _ (by omega)
        have hix : ∀ W : World, (Instr.index 69 (.agg #[.int .i64 (r), .int .i64 (0), .int .i64 (d), .int .i64 (d), .int .i64 (0), .int .i64 (r), .int .i64 (-d), .int .i64 (d), .int .i64 (-r), .int .i64 (0), .int .i64 (-d), .int .i64 (-d), .int .i64 (0), .int .i64 (-r), .int .i64 (d), .int .i64 (-d)]) (.int .i64 7)).run Try.prog W = .ok (.agg #[.int .i64 (d), .int .i64 (-d)]) W := fun W => by kernel_rfl
        go_upto_region 9 with fail
        obtain ⟨W1, hW1⟩ : ∃ W1, W1 = wr.alloc (.cells #[.int .i64 (d), .int .i64 (-d)] 68) := ⟨_, rfl⟩
        have hbW : Below wr.heap.size wr W1 := by rw [hW1]; exact (Below.refl _ _).alloc (Nat.le_refl _) _
        have t0 : W1.cell? ⟨w.heap.size, 0, none⟩ = some (.int .i64 x1) := (hbW.cell (p := ⟨w.heap.size, 0, none⟩) n7).trans d0
        have t1 : W1.cell? ⟨w.heap.size, 1, none⟩ = some (.int .i64 y1) := (hbW.cell (p := ⟨w.heap.size, 1, none⟩) n7).trans d1
        have t2 : W1.cell? ⟨wr.heap.size, 0, none⟩ = some (.int .i64 (d)) := by rw [hW1, World.cell?_alloc_at _ _ _ _ rfl]; rfl
        have t3 : W1.cell? ⟨wr.heap.size, 1, none⟩ = some (.int .i64 (-d)) := by rw [hW1, World.cell?_alloc_at _ _ _ _ rfl]; rfl
        have hsW := hbW.size
        have hb33 : Below w.heap.size w W1 := Below.trans hbr (Below.mono hbW hsr)
        rw [← hW1]
        clear hW1 hix
        obtain ⟨acc, hacc⟩ : ∃ acc, acc = L 7 := ⟨_, rfl⟩
        rw [← hacc] at HOWN HOWN2 HST HLL
        have hal := HLL.out
        have hal9 : acc.length ≤ 40 := by omega
        clear hacc
        go_wp2_with (at_builtin; refine wpList_append_lies _ rfl _ _ 33 rfl (w.heap.size + 1) 27 j0 (.agg #[.int .i64 0, .int .i64 0]) 2 16 Try.underlying33 HI.out HZ0.out HZ1.out HZ2.out rfl (by omega) vo (acc.length) (pairV acc) rfl (HOWN2.out _ (Below.alloc hbW hbW.size _)) ⟨_, 0, none⟩ 1 1 [.int .i64 (x1 + d), .int .i64 (y1 + -d)] rfl rfl (World.news_of_block (cs := #[.int .i64 (x1 + d), .int .i64 (y1 + -d)]) (t := 27) (fr := (0, 0)) (heap_alloc_new _ _)) (by simp [Value.oneCell']) (by omega) (by unfold maxLen; omega) (by omega) (by simp; omega) _ rfl ?_; intro gg cap5 w5 hown5 hgrow5 hat5 hlt5)
        have hne : ∀ b, b ≤ w.heap.size → some b ≠ vo.ownBlock := fun b hb e => by have := HOL.out b e.symm; omega
        have f0 : w5.cell? ⟨w.heap.size, 0, none⟩ = some (.int .i64 x1) := (hgrow5.cell_far ⟨w.heap.size, 0, none⟩ (by first | omega | (simp; done) | (simp; omega)) (hne _ (Nat.le_refl _))).trans ((World.cell?_alloc_past _ _ _ (by omega)).trans t0)
        have f1 : w5.cell? ⟨w.heap.size, 1, none⟩ = some (.int .i64 y1) := (hgrow5.cell_far ⟨w.heap.size, 1, none⟩ (by first | omega | (simp; done) | (simp; omega)) (hne _ (Nat.le_refl _))).trans ((World.cell?_alloc_past _ _ _ (by omega)).trans t1)
        have hb5 : Below w.heap.size w w5 := Below.grown (Below.alloc hb33 hb33.size _) hgrow5 (by first | (simp; omega) | omega) (fun q hq => by have := HOL.out q hq; omega)
        have hown6 : OwnPairs 27 w5 (w.heap.size + 1) (.slice (some ⟨gg, 0, none⟩) (acc.length + 1) cap5) (L 8) := by rw [HST.out, OwnPairs, pairV_append, List.length_append]; simpa [pairV] using hown5
        have hown7 : OwnPairs 27 w5 (w.heap.size + 1) (.slice (some ⟨gg, 0, none⟩) 8 cap5) (L 8) := by rw [hal] at hown6; exact hown6
        have HO6 := Lib.hid hown7
        have hs6 := hgrow5.size
        (try simp at hs6)
        clear hat5 hgrow5 hown5 hown6 hown7 hne t0 t1 t2 t3
        have hs5 := hb5.size
        go_wp2
        go_roundw
        case rel => exact ⟨8, _, by omega, by go_num, rfl, HO6, f0, f1, hb5, by omega⟩
        case measure => simp [intOf]

    · obtain rfl : k = 8 := by omega
      have HOB := Lib.hid (fun (W : World) (hb : Below wr.heap.size wr W) => own_below HOWN.out hb)
      go_wp2_with (go_at_call 51; (refine (HSO.out _ _ _ (HOB.out _ (by repeat (first | exact Below.refl _ _ | assumption | refine Below.drew ?_ | refine below_drewN ?_ _ | refine Below.alloc ?_ (by first | omega | (simp; done) | (simp; omega)) _ | refine Below.setCell ?_ (by first | omega | (simp; done) | (simp; omega)) _ | refine Below.trans ?_ (Below.mono (by assumption) (by first | omega | (simp; done) | (simp; omega))))))).mono ?_; rintro e w4 ⟨v4, rfl, ho4, hb4⟩; have hs4 := hb4.size))
      go_ret2
      exact ⟨_, rfl, own_mono ho4 (by omega), (by repeat (first | exact Below.refl _ _ | assumption | refine Below.drew ?_ | refine below_drewN ?_ _ | refine Below.alloc ?_ (by first | omega | (simp; done) | (simp; omega)) _ | refine Below.setCell ?_ (by first | omega | (simp; done) | (simp; omega)) _ | refine Below.trans ?_ (Below.mono (by assumption) (by first | omega | (simp; done) | (simp; omega)))))⟩

theorem cirW_bound {r d : Int} (h1 : 1 ≤ r) (h2 : r ≤ 1400) (h3 : 0 ≤ d) (h4 : d ≤ 3162) (k : Nat) (hk : k < 8) : (-3162 ≤ sx (cirW r d) k ∧ sx (cirW r d) k ≤ 3162) ∧ (-3162 ≤ sy (cirW r d) k ∧ sy (cirW r d) k ≤ 3162) := by
  have h8 : k = 0 ∨ k = 1 ∨ k = 2 ∨ k = 3 ∨ k = 4 ∨ k = 5 ∨ k = 6 ∨ k = 7 := by omega
  rcases h8 with rfl | rfl | rfl | rfl | rfl | rfl | rfl | rfl
  all_goals (simp only [sx, sy, cirW, List.getD_cons_zero, List.getD_cons_succ]; omega)
theorem cirTo_off {x y r d : Int} {k : Nat} (h : onField (x + sx (cirW r d) k) (y + sy (cirW r d) k) = false) : ∀ m, k < m → allOn (cirTo x y r d m) = false
  | 0, hm => absurd hm (Nat.not_lt_zero k)
  | m + 1, hm => by
    rw [cirTo, allOn_snoc]
    by_cases e : k = m
    · subst e; rw [h, Bool.and_false]
    · rw [cirTo_off h m (by omega)]; rfl

set_option maxHeartbeats 8000000 in
theorem specCir_yes (x1 y1 r : Int) (h1 : arOk x1 y1 r = true) (w : World) :
    Calls Try.prog 32 #[.agg #[.int .i64 x1, .int .i64 y1], .int .i64 r] w fun e w' => ∃ v, e = .returned (.tuple #[v, .bool (allOn (cirTo x1 y1 r (cirD r) 8))]) ∧ OwnPairs 27 w' w.heap.size v (onIf (cirTo x1 y1 r (cirD r) 8)) ∧ Below w.heap.size w w' := by
  obtain ⟨j0, hi, hz0, hz1, hz2⟩ := info_parts Try.infoSpot
  have HI := Lib.hid hi
  have HZ0 := Lib.hid hz0
  have HZ1 := Lib.hid hz1
  have HZ2 := Lib.hid hz2
  clear hi hz0 hz1 hz2
  obtain ⟨o1, r1, r2⟩ := arOk_parts h1
  obtain ⟨⟨p1, p2⟩, p3, p4⟩ := onField_iff.1 o1
  have HO1 := Lib.hid h1
  obtain ⟨c1, c2, c3, c4, c5, c6⟩ := cirD_bound r1 r2
  have v1 : IntKind.i64.wrap (r * r) = r * r := IntWalk.i64_in _ (by omega)
  have HRT := Lib.hid (fun W => arRoot_any (r * r / 2) c3 (by omega) W)
  have e0 : rt (r * r / 2) = cirD r := rfl
  rw [e0] at HRT
  have hlen : (cirTo x1 y1 r (cirD r) 8).length ≤ 40 := by rw [cirTo_length]; omega
  obtain ⟨d, hd⟩ : ∃ d, d = cirD r := ⟨_, rfl⟩
  rw [← hd] at HRT c5 c6 hlen ⊢
  obtain ⟨L, hL⟩ : ∃ L, L = cirTo x1 y1 r d := ⟨_, rfl⟩
  have HL0 := Lib.hid (show L 0 = [] by rw [hL]; rfl)
  have HLS := Lib.hid (show ∀ k : Nat, L (k + 1) = L k ++ [(x1 + sx (cirW r d) k, y1 + sy (cirW r d) k)] by rw [hL]; intro k; rfl)
  have HLN := Lib.hid (show ∀ k, (L k).length = k by rw [hL]; intro k; exact cirTo_length _ _ _ _ k)
  rw [← hL] at hlen ⊢
  have w1' : IntKind.i64.wrap (-r) = -r := IntWalk.i64_in _ (by omega)
  have w2' : IntKind.i64.wrap (-d) = -d := IntWalk.i64_in _ (by omega)
  obtain ⟨h, hh⟩ : ∃ h, h = r * r / 2 := ⟨_, rfl⟩
  obtain ⟨rr, hrr⟩ : ∃ rr, rr = r * r := ⟨_, rfl⟩
  have hL' := hL
  clear hL hd e0 h1 o1
  have HLF := Lib.hid (show ∀ k : Nat, onField (x1 + sx (cirW r d) k) (y1 + sy (cirW r d) k) = false → k < 8 → allOn (L 8) = false by rw [hL']; intro k hk hlt; exact cirTo_off hk 8 hlt)
  have HLY := Lib.hid (show ∀ k : Nat, allOn (L (k + 1)) = (allOn (L k) && onField (x1 + sx (cirW r d) k) (y1 + sy (cirW r d) k)) by rw [hL']; intro k; exact allOn_snoc _ _ _)
  have HWB := Lib.hid (fun k hk => cirW_bound r1 r2 c5 c6 k hk)
  clear hlen hL'
  go_enter Try.func32, Try.ntmps32
  go_upto_region 5 with (first | (go_at_call 44; (refine (arGood_any _ _ _ _).mono ?_; rw [HO1.out]; rintro e w1 ⟨rfl, hb1⟩; have hs1 := hb1.size; (try simp at hs1); have d0 : w1.cell? ⟨w.heap.size, 0, none⟩ = some (.int .i64 x1) := (hb1.cell (p := ⟨w.heap.size, 0, none⟩) (by first | omega | (simp; done) | (simp; omega))).trans (by go_simp); have d1 : w1.cell? ⟨w.heap.size, 1, none⟩ = some (.int .i64 y1) := (hb1.cell (p := ⟨w.heap.size, 1, none⟩) (by first | omega | (simp; done) | (simp; omega))).trans (by go_simp))) | (go_at_call 41; ((refine (HRT.out _).mono ?_); rintro e w' ⟨rfl, rfl⟩)))
  have hbw : Below w.heap.size w w1 := (by repeat (first | exact Below.refl _ _ | assumption | refine Below.drew ?_ | refine below_drewN ?_ _ | refine Below.alloc ?_ (by first | omega | (simp; done) | (simp; omega)) _ | refine Below.setCell ?_ (by first | omega | (simp; done) | (simp; omega)) _ | refine Below.trans ?_ (Below.mono (by assumption) (by first | omega | (simp; done) | (simp; omega)))))
  clear hb1
  go_cut [47, 48, 49] (fun sa sb sc wx => sa = .slice (some ⟨w1.heap.size + 1 + 1 + 1 + 1 + 1 + 1 + 1 + 1, 0, none⟩) 8 8 ∧ sb = .int .i64 8 ∧ sc = .int .i64 0 ∧ ((wx.cell? ⟨w1.heap.size + 1 + 1 + 1 + 1 + 1 + 1 + 1 + 1, 0, none⟩ = some (.slice (some ⟨w1.heap.size, 0, none⟩) 2 2) ∧ wx.cell? ⟨w1.heap.size, 0, none⟩ = some (.int .i64 (r)) ∧ wx.cell? ⟨w1.heap.size, 1, none⟩ = some (.int .i64 (0))) ∧ (wx.cell? ⟨w1.heap.size + 1 + 1 + 1 + 1 + 1 + 1 + 1 + 1, 1, none⟩ = some (.slice (some ⟨w1.heap.size + 1, 0, none⟩) 2 2) ∧ wx.cell? ⟨w1.heap.size + 1, 0, none⟩ = some (.int .i64 (d)) ∧ wx.cell? ⟨w1.heap.size + 1, 1, none⟩ = some (.int .i64 (d))) ∧ (wx.cell? ⟨w1.heap.size + 1 + 1 + 1 + 1 + 1 + 1 + 1 + 1, 2, none⟩ = some (.slice (some ⟨w1.heap.size + 1 + 1, 0, none⟩) 2 2) ∧ wx.cell? ⟨w1.heap.size + 1 + 1, 0, none⟩ = some (.int .i64 (0)) ∧ wx.cell? ⟨w1.heap.size + 1 + 1, 1, none⟩ = some (.int .i64 (r))) ∧ (wx.cell? ⟨w1.heap.size + 1 + 1 + 1 + 1 + 1 + 1 + 1 + 1, 3, none⟩ = some (.slice (some ⟨w1.heap.size + 1 + 1 + 1, 0, none⟩) 2 2) ∧ wx.cell? ⟨w1.heap.size + 1 + 1 + 1, 0, none⟩ = some (.int .i64 (-d)) ∧ wx.cell? ⟨w1.heap.size + 1 + 1 + 1, 1, none⟩ = some (.int .i64 (d))) ∧ (wx.cell? ⟨w1.heap.size + 1 + 1 + 1 + 1 + 1 + 1 + 1 + 1, 4, none⟩ = some (.slice (some ⟨w1.heap.size + 1 + 1 + 1 + 1, 0, none⟩) 2 2) ∧ wx.cell? ⟨w1.heap.size + 1 + 1 + 1 + 1, 0, none⟩ = some (.int .i64 (-r)) ∧ wx.cell? ⟨w1.heap.size + 1 + 1 + 1 + 1, 1, none⟩ = some (.int .i64 (0))) ∧ (wx.cell? ⟨w1.heap.size + 1 + 1 + 1 + 1 + 1 + 1 + 1 + 1, 5, none⟩ = some (.slice (some ⟨w1.heap.size + 1 + 1 + 1 + 1 + 1, 0, none⟩) 2 2) ∧ wx.cell? ⟨w1.heap.size + 1 + 1 + 1 + 1 + 1, 0, none⟩ = some (.int .i64 (-d)) ∧ wx.cell? ⟨w1.heap.size + 1 + 1 + 1 + 1 + 1, 1, none⟩ = some (.int .i64 (-d))) ∧ (wx.cell? ⟨w1.heap.size + 1 + 1 + 1 + 1 + 1 + 1 + 1 + 1, 6, none⟩ = some (.slice (some ⟨w1.heap.size + 1 + 1 + 1 + 1 + 1 + 1, 0, none⟩) 2 2) ∧ wx.cell? ⟨w1.heap.size + 1 + 1 + 1 + 1 + 1 + 1, 0, none⟩ = some (.int .i64 (0)) ∧ wx.cell? ⟨w1.heap.size + 1 + 1 + 1 + 1 + 1 + 1, 1, none⟩ = some (.int .i64 (-r))) ∧ (wx.cell? ⟨w1.heap.size + 1 + 1 + 1 + 1 + 1 + 1 + 1 + 1, 7, none⟩ = some (.slice (some ⟨w1.heap.size + 1 + 1 + 1 + 1 + 1 + 1 + 1, 0, none⟩) 2 2) ∧ wx.cell? ⟨w1.heap.size + 1 + 1 + 1 + 1 + 1 + 1 + 1, 0, none⟩ = some (.int .i64 (d)) ∧ wx.cell? ⟨w1.heap.size + 1 + 1 + 1 + 1 + 1 + 1 + 1, 1, none⟩ = some (.int .i64 (-d)))) ∧ w1.heap.size + 1 + 1 + 1 + 1 + 1 + 1 + 1 + 1 < wx.heap.size ∧ Below w1.heap.size w1 wx)
  case first =>
    go_wp2_with fail
    go_meet
    refine ⟨rfl, rfl, rfl, ?_, (by first | omega | (simp; done) | (simp; omega)), (by repeat (first | exact Below.refl _ _ | assumption | refine Below.drew ?_ | refine below_drewN ?_ _ | refine Below.alloc ?_ (by first | omega | (simp; done) | (simp; omega)) _ | refine Below.setCell ?_ (by first | omega | (simp; done) | (simp; omega)) _ | refine Below.trans ?_ (Below.mono (by assumption) (by first | omega | (simp; done) | (simp; omega)))))⟩
    refine ⟨⟨?_, ?_, ?_⟩, ⟨?_, ?_, ?_⟩, ⟨?_, ?_, ?_⟩, ⟨?_, ?_, ?_⟩, ⟨?_, ?_, ?_⟩, ⟨?_, ?_, ?_⟩, ⟨?_, ?_, ?_⟩, ⟨?_, ?_, ?_⟩⟩
    all_goals first | (go_simp; done) | (simp; done)
  case rest =>
    obtain ⟨rfl, rfl, rfl, hF, hz, hbx⟩ := hcut
    obtain ⟨wx, rfl⟩ : ∃ x, x = wc := ⟨_, rfl⟩
    have hall : ∀ j, j < 8 → ∃ b, wx.cell? ⟨w1.heap.size + 1 + 1 + 1 + 1 + 1 + 1 + 1 + 1, j, none⟩ = some (.slice (some ⟨b, 0, none⟩) 2 2) ∧ b < wx.heap.size ∧ wx.cell? ⟨b, 0, none⟩ = some (.int .i64 (sx (cirW r d) j)) ∧ wx.cell? ⟨b, 1, none⟩ = some (.int .i64 (sy (cirW r d) j)) := by
      obtain ⟨⟨fa0, fb0, fc0⟩, ⟨fa1, fb1, fc1⟩, ⟨fa2, fb2, fc2⟩, ⟨fa3, fb3, fc3⟩, ⟨fa4, fb4, fc4⟩, ⟨fa5, fb5, fc5⟩, ⟨fa6, fb6, fc6⟩, ⟨fa7, fb7, fc7⟩⟩ := hF
      intro j hj
      have h8 : j = 0 ∨ j = 1 ∨ j = 2 ∨ j = 3 ∨ j = 4 ∨ j = 5 ∨ j = 6 ∨ j = 7 := by omega
      rcases h8 with rfl | rfl | rfl | rfl | rfl | rfl | rfl | rfl
      · exact ⟨_, fa0, World.block_lt_of_cell? _ _ fb0, fb0, fc0⟩
      · exact ⟨_, fa1, World.block_lt_of_cell? _ _ fb1, fb1, fc1⟩
      · exact ⟨_, fa2, World.block_lt_of_cell? _ _ fb2, fb2, fc2⟩
      · exact ⟨_, fa3, World.block_lt_of_cell? _ _ fb3, fb3, fc3⟩
      · exact ⟨_, fa4, World.block_lt_of_cell? _ _ fb4, fb4, fc4⟩
      · exact ⟨_, fa5, World.block_lt_of_cell? _ _ fb5, fb5, fc5⟩
      · exact ⟨_, fa6, World.block_lt_of_cell? _ _ fb6, fb6, fc6⟩
      · exact ⟨_, fa7, World.block_lt_of_cell? _ _ fb7, fb7, fc7⟩
    have hsx := hbx.size
    have HALLC := Lib.hid hall
    have z0 : wx.cell? ⟨w.heap.size, 0, none⟩ = some (.int .i64 x1) := (hbx.cell (p := ⟨w.heap.size, 0, none⟩) (by first | omega | (simp; done) | (simp; omega))).trans d0
    have z1 : wx.cell? ⟨w.heap.size, 1, none⟩ = some (.int .i64 y1) := (hbx.cell (p := ⟨w.heap.size, 1, none⟩) (by first | omega | (simp; done) | (simp; omega))).trans d1
    have hbwx : Below w.heap.size w wx := Below.trans hbw (Below.mono hbx hbw.size)
    obtain ⟨TB, hTB⟩ : ∃ t, t = w1.heap.size + 1 + 1 + 1 + 1 + 1 + 1 + 1 + 1 := ⟨_, rfl⟩
    rw [← hTB] at HALLC hz ⊢
    have hbs := hbw.size
    have zw : w.heap.size < wx.heap.size := World.block_lt_of_cell? _ _ z0
    clear hall hF d0 d1 hTB hbx hsx hbw hs1
    go_wp2_with fail
    go_loopw [7, 49] (fun ov i wr => ∃ (k : Nat) (vo : Value), k ≤ 8 ∧ i = .int .i64 k ∧ ov = vo ∧ Hid (OwnPairs 27 wr wx.heap.size vo (L k)) ∧ Below wx.heap.size wx wr ∧ Hid (allOn (L k) = true)) (fun _ i _ => 8 - (intOf i).toNat)
    case atStart => exact ⟨0, _, Nat.zero_le _, rfl, rfl, Lib.hid (by rw [HL0.out]; exact own_nil _ _ _), Below.refl _ _, Lib.hid (by rw [HL0.out]; rfl)⟩
    case round =>
      obtain ⟨k, vo, hk, rfl, hv, HOWN, hbr, HALL⟩ := hrel
      replace hv := hv.symm
      subst hv
      have hsr := hbr.size
      by_cases hlt : k < 8
      · obtain ⟨b, e0, e1, e2, e3⟩ := HALLC.out k hlt
        obtain ⟨⟨m1, m2⟩, m3, m4⟩ := HWB.out k hlt
        replace e0 := (hbr.cell (p := ⟨TB, k, none⟩) hz).trans e0
        replace e2 := (hbr.cell (p := ⟨b, 0, none⟩) e1).trans e2
        replace e3 := (hbr.cell (p := ⟨b, 1, none⟩) e1).trans e3
        have d0 : wr.cell? ⟨w.heap.size, 0, none⟩ = some (.int .i64 x1) := (hbr.cell (p := ⟨w.heap.size, 0, none⟩) zw).trans z0
        have d1 : wr.cell? ⟨w.heap.size, 1, none⟩ = some (.int .i64 y1) := (hbr.cell (p := ⟨w.heap.size, 1, none⟩) zw).trans z1
        have hls := HLS.out k
        have hlf := HLF.out k
        have hly := HLY.out k
        have hlln := HLN.out k
        obtain ⟨wX, hwX⟩ : ∃ z, z = sx (cirW r d) k := ⟨_, rfl⟩
        obtain ⟨wY, hwY⟩ : ∃ z, z = sy (cirW r d) k := ⟨_, rfl⟩
        rw [← hwX] at e2 m1 m2 hls hlf hly
        rw [← hwY] at e3 m3 m4 hls hlf hly
        have hsi := fun W => stIf_any (x1 + wX) (y1 + wY) W
        obtain ⟨X, hX⟩ : ∃ X, X = x1 + wX := ⟨_, rfl⟩
        obtain ⟨Y, hY⟩ : ∃ Y, Y = y1 + wY := ⟨_, rfl⟩
        have x9 : IntKind.i64.wrap (x1 + wX) = X := by rw [hX]; exact IntWalk.i64_in _ (by omega)
        have y9 : IntKind.i64.wrap (y1 + wY) = Y := by rw [hY]; exact IntWalk.i64_in _ (by omega)
        rw [← hX, ← hY] at hls hlf hly hsi
        obtain ⟨PX, hPX⟩ : ∃ z, z = guardI (onField X Y) X := ⟨_, rfl⟩
        obtain ⟨PY, hPY⟩ : ∃ z, z = guardI (onField X Y) Y := ⟨_, rfl⟩
        obtain ⟨ok, hok⟩ : ∃ z, z = onField X Y := ⟨_, rfl⟩
        rw [← hPX, ← hPY, ← hok] at hsi
        rw [← hok] at hlf hly hPX hPY
        have HSI := Lib.hid hsi
        have HST := Lib.hid hls
        have HLF2 := Lib.hid hlf
        have HLY2 := Lib.hid hly
        have HPX := Lib.hid hPX
        have HPY := Lib.hid hPY
        have HLLN := Lib.hid hlln
        clear hls hlf hly hlln hsi hPX hPY hok hwX hwY hX hY
        have n7 : w.heap.size < wr.heap.size := by omega
        have n8 : ¬ w.heap.size = wr.heap.size := by omega
        have n9 : ¬ wr.heap.size = w.heap.size := by omega
        have n10 : b < wr.heap.size := by omega
        have n11 : ¬ b = wr.heap.size := by omega
        have n12 : ¬ wr.heap.size = b := by omega
        have i0 : (0 : Int) ≤ (k : Int) := by omega
        have i1 : (k : Int) < 8 := by omega
        go_upto_region 8 with fail
        go_cut [10, 11] (fun sa sb wy => ∃ g : Nat, sa = .pointer (some ⟨g, 0, none⟩) ∧ sb = .bool ok ∧ wr.heap.size ≤ g ∧ g < wy.heap.size ∧ wy.cell? ⟨g, 0, none⟩ = some (.int .i64 PX) ∧ wy.cell? ⟨g, 1, none⟩ = some (.int .i64 PY) ∧ Below wr.heap.size wr wy)
        case first =>
          go_region_held3 (fun w' => w'.cell? ⟨w.heap.size, 0, none⟩ = some (.int .i64 x1) ∧ w'.cell? ⟨w.heap.size, 1, none⟩ = some (.int .i64 y1) ∧ w'.cell? ⟨b, 0, none⟩ = some (.int .i64 wX) ∧ w'.cell? ⟨b, 1, none⟩ = some (.int .i64 wY)) (refine ⟨?_, ?_, ?_, ?_⟩ <;> first | (go_keep; done) | (simp [*, World.cell?_alloc_past, World.cell?_setCell_far]; done) | (simp [*, World.cell?_alloc_past, World.cell?_alloc_at, World.cell?_setCell_far]; done) | (go_simp; done))
            (first | (go_at_call 45; ((with_reducible refine (HSI.out _).mono ?_); rintro e w3 ⟨rfl, hb3⟩; have hs3 := hb3.size; (try simp at hs3); have q0 : w3.cell? ⟨w.heap.size, 0, none⟩ = _ := hb3.cell (p := ⟨w.heap.size, 0, none⟩) (by first | omega | (simp; done) | (simp; omega)); have q1 : w3.cell? ⟨w.heap.size, 1, none⟩ = _ := hb3.cell (p := ⟨w.heap.size, 1, none⟩) (by first | omega | (simp; done) | (simp; omega)); have q2 : w3.cell? ⟨b, 0, none⟩ = _ := hb3.cell (p := ⟨b, 0, none⟩) (by first | omega | (simp; done) | (simp; omega)); have q3 : w3.cell? ⟨b, 1, none⟩ = _ := hb3.cell (p := ⟨b, 1, none⟩) (by first | omega | (simp; done) | (simp; omega)); have y0 : w.heap.size < w3.heap.size := (by omega); have y1' : ¬ w.heap.size = w3.heap.size := (by omega); have y2' : ¬ w3.heap.size = w.heap.size := (by omega); have y3 : b < w3.heap.size := (by omega); have y4 : ¬ b = w3.heap.size := (by omega); have y5 : ¬ w3.heap.size = b := (by omega); have hc3 := fun b o h => hb3.cell (p := ⟨b, o, none⟩) h; have hf3 := fun b o h => hb3.frozen (p := ⟨b, o, none⟩) h)))
          all_goals (go_wp2_with fail; go_meet; refine ⟨_, rfl, rfl, ?_, ?_, ?_, ?_, (by repeat (first | exact Below.refl _ _ | assumption | refine Below.drew ?_ | refine below_drewN ?_ _ | refine Below.alloc ?_ (by first | omega | (simp; done) | (simp; omega)) _ | refine Below.setCell ?_ (by first | omega | (simp; done) | (simp; omega)) _ | refine Below.trans ?_ (Below.mono (by assumption) (by first | omega | (simp; done) | (simp; omega)))))⟩; all_goals first | (simp [*, World.cell?_alloc_past]; done) | (go_simp; done) | (omega; done) | (simp; done) | (simp; omega))
        case rest =>
          obtain ⟨g, rfl, rfl, g1, g2, g3, g4, hby⟩ := hcut
          obtain ⟨wy, rfl⟩ : ∃ x, x = wc := ⟨_, rfl⟩
          have hsy := hby.size
          have hbxy : Below wx.heap.size wx wy := Below.trans hbr (Below.mono hby hsr)
          cases ok
          · have HF := Lib.hid (HLF2.out rfl hlt)
            go_wp2_with fail
            go_ret2
            exact ⟨_, by rw [HF.out]; rfl, by rw [onIf_no HF.out]; exact own_nil _ _ _, Below.trans hbwx (Below.mono hbxy (by omega))⟩
          · have e1 : PX = X := HPX.out
            have e2 : PY = Y := HPY.out
            subst e1 e2
            have HALL2 := Lib.hid (show allOn (L (k + 1)) = true by rw [HLY2.out, HALL.out]; rfl)
            have hlln := HLLN.out
            obtain ⟨acc, hacc⟩ : ∃ acc, acc = L k := ⟨_, rfl⟩
            rw [← hacc] at HOWN HST hlln
            have hal9 : acc.length ≤ 40 := by omega
            have HOL := Lib.hid (World.ownsRow.lt HOWN.out)
            have HOWN2 := Lib.hid (fun (W : World) (hb : Below wr.heap.size wr W) => own_below HOWN.out hb)
            clear hacc hlln HALL HLY2 HLF2 HPX HPY e3 d0 d1
            go_wp2_with (at_builtin; refine wpList_append_lies _ rfl _ _ 33 rfl (wx.heap.size) 27 j0 (.agg #[.int .i64 0, .int .i64 0]) 2 16 Try.underlying33 HI.out HZ0.out HZ1.out HZ2.out rfl (by omega) vo (acc.length) (pairV acc) rfl (HOWN2.out _ (Below.alloc hby hby.size _)) ⟨_, 0, none⟩ 1 1 [.int .i64 (PX), .int .i64 (PY)] rfl rfl (World.news_of_block (cs := #[.int .i64 (PX), .int .i64 (PY)]) (t := 27) (fr := (0, 0)) (heap_alloc_new _ _)) (by simp [Value.oneCell']) (by omega) (by unfold maxLen; omega) (by omega) (by simp; omega) _ rfl ?_; intro gg cap5 w5 hown5 hgrow5 hat5 hlt5)
            have hb5 : Below wx.heap.size wx w5 := Below.grown (Below.alloc hbxy hbxy.size _) hgrow5 (by first | (simp; omega) | omega) (fun q hq => by have := HOL.out q hq; omega)
            have hown6 : OwnPairs 27 w5 wx.heap.size (.slice (some ⟨gg, 0, none⟩) (acc.length + 1) cap5) (L (k + 1)) := by rw [HST.out, OwnPairs, pairV_append, List.length_append]; simpa [pairV] using hown5
            have HO6 := Lib.hid hown6
            clear hat5 hgrow5 hown5 hown6
            have hs5 := hb5.size
            go_wp2
            go_roundw
            case rel => exact ⟨k + 1, _, by omega, by go_num, rfl, HO6, hb5, HALL2⟩
            case measure => simp [intOf]; omega
      · obtain rfl : k = 8 := by omega
        go_wp2
        go_ret2
        exact ⟨_, by rw [HALL.out]; rfl, by rw [onIf_yes HALL.out]; exact own_mono HOWN.out (by omega), Below.trans hbwx (Below.mono hbr (by omega))⟩

theorem specCir_any (x1 y1 r : Int) (w : World) :
    Calls Try.prog 32 #[.agg #[.int .i64 x1, .int .i64 y1], .int .i64 r] w fun e w' => ∃ v, e = .returned (.tuple #[v, .bool (arOk x1 y1 r && allOn (cirL x1 y1 r))]) ∧ OwnPairs 27 w' w.heap.size v (onIf (cirL x1 y1 r)) ∧ Below w.heap.size w w' := by
  cases hk : arOk x1 y1 r
  · have e : cirL x1 y1 r = [] := by unfold cirL; rw [hk]; rfl
    rw [e]
    exact (specCir_no x1 y1 r hk w).mono fun e w' ⟨he, hb⟩ => ⟨_, he, own_nil _ _ _, hb⟩
  · have e : cirL x1 y1 r = cirTo x1 y1 r (cirD r) 8 := by unfold cirL; rw [if_pos hk]
    rw [e]
    exact specCir_yes x1 y1 r hk w

theorem cir_any (x1 y1 r : Int) (w : World) :
    Calls Try.prog 33 #[.agg #[.int .i64 x1, .int .i64 y1], .int .i64 r] w fun e w' => ∃ v, e = .returned (.tuple #[v, .bool (arOk x1 y1 r && allOn (cirL x1 y1 r))]) ∧ OwnPairs 27 w' w.heap.size v (onIf (cirL x1 y1 r)) ∧ Below w.heap.size w w' := by
  cases hk : arOk x1 y1 r
  · have e : cirL x1 y1 r = [] := by unfold cirL; rw [hk]; rfl
    rw [e]
    exact (cir_no x1 y1 r hk w).mono fun e w' ⟨he, hb⟩ => ⟨_, he, own_nil _ _ _, hb⟩
  · have e : cirL x1 y1 r = cirTo x1 y1 r (cirD r) 8 := by unfold cirL; rw [if_pos hk]
    rw [e]
    exact cir_yes x1 y1 r hk w

end Go.Proofs.Ytjdpbjpeohdoiaa
