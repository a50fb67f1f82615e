/- Lines, the other side. No conditions but those written in each theorem. -/
import Derived.Test.YtppnomflmacpkaaFmWay
import Derived.Deep.RegionHeld3
import Derived.Deep.DrawnRows
import Derived.IntWalk
import Derived.Laws.AppendOwn
import Derived.Deep.AppendLies
namespace Go.Proofs.Ytppnomflmacpkaa
open Go.RowKit


attribute [local go_sem ↓] Go.wp_at_zero Go.wp_at_succ

set_option maxHeartbeats 1000000 in
theorem specLine_no (x1 y1 x2 y2 n : Int) (hk : lineOk x1 y1 x2 y2 n = false) (w : World) :
    Calls Try.prog 16 #[.agg #[.int .i64 x1, .int .i64 y1], .agg #[.int .i64 x2, .int .i64 y2], .int .i64 n] w fun e w' => e = .returned (.tuple #[.slice none 0 0, .bool false]) ∧ Below w.heap.size w w' := by
  unfold lineOk at hk
  cases h1 : (onField x1 y1 && onField x2 y2) <;> cases h2 : inB 1 n 12
  all_goals first | (exfalso; rw [h1, h2] at hk; cases hk; done) | clear hk
  all_goals
    have H1 := Lib.hid h1
    have H2 := Lib.hid h2
    clear h1 h2
    go_enter Try.func16, Try.ntmps16
    go_wp2_with (first | (go_at_call 40; (refine (stTwo_any _ _ _ _ _).mono ?_; rw [H1.out]; rintro e w1 ⟨rfl, hb1⟩; have hs1 := hb1.size)) | (go_at_call 41; (refine (fmCount_any _ _).mono ?_; rw [H2.out]; rintro e w' ⟨rfl, rfl⟩)))
    go_ret2
    exact ⟨rfl, (by repeat (first | exact Below.refl _ _ | assumption | refine Below.drew ?_ | refine below_drewN ?_ _ | refine Below.alloc ?_ (by first | omega | (simp; done) | (simp; omega)) _ | refine Below.setCell ?_ (by first | omega | (simp; done) | (simp; omega)) _ | refine Below.trans ?_ (Below.mono (by assumption) (by first | omega | (simp; done) | (simp; omega)))))⟩

set_option maxHeartbeats 4000000 in
theorem specLine_yes (x1 y1 x2 y2 : Int) (N M : Nat) (hM : M = wholeN N) (h1 : onField x1 y1 = true) (h2 : onField x2 y2 = true) (n1 : 1 ≤ N) (n2 : N ≤ 12) (X : List (Int × Int)) (bo : Bool) (hX : X = chIf (wayTo [(x1, y1), (x2, y2)] N N)) (hbo : bo = chOk (wayTo [(x1, y1), (x2, y2)] N N)) (w : World) :
    Calls Try.prog 16 #[.agg #[.int .i64 x1, .int .i64 y1], .agg #[.int .i64 x2, .int .i64 y2], .int .i64 N] w fun e w' => ∃ v, e = .returned (.tuple #[v, .bool bo]) ∧ OwnPairs 24 w' w.heap.size v X ∧ Below w.heap.size w w' := by
  obtain ⟨j0, hi, hz0, hz1, hz2⟩ := info_parts Try.infoSpot
  have HI := Lib.hid hi
  have HZ0 := Lib.hid hz0
  have HZ1 := Lib.hid hz1
  have HZ2 := Lib.hid hz2
  clear hi hz0 hz1 hz2
  have HX := Lib.hid hX
  have HBO := Lib.hid hbo
  clear hX hbo
  have htwo : (onField x1 y1 && onField x2 y2) = true := by rw [h1, h2]; rfl
  have hin : inB 1 (N : Int) 12 = true := inB_iff.2 ⟨by omega, by omega⟩
  have H1 := Lib.hid htwo
  have H2 := Lib.hid hin
  have HON1 := Lib.hid h1
  have HON2 := Lib.hid h2
  obtain ⟨m1, m2⟩ := wholeN_bound n2
  rw [← hM] at m1 m2
  have HL := Lib.hid (show ∀ W : World, Calls Try.prog 43 #[.int .i64 1, .int .i64 ((N : Int) - 1)] W fun e w' => e = .returned (.int .i64 (M : Nat)) ∧ W = w' from fun W => by
    have e : hi2 1 ((N : Int) - 1) = ((M : Nat) : Int) := by rw [hi2_max, hM]; unfold wholeN; omega
    rw [← e]; exact l1Most_any _ _ W)
  have HM := Lib.hid hM
  clear h1 h2 htwo hin hM
  obtain ⟨L, hL⟩ : ∃ L, L = [(x1, y1), (x2, y2)] := ⟨_, rfl⟩
  rw [← hL] at HX HBO
  have HLL := Lib.hid hL
  clear hL
  have v1 : IntKind.i64.wrap ((N : Int) - 1) = (N : Int) - 1 := IntWalk.i64_in _ (by omega)
  go_enter Try.func16, Try.ntmps16
  go_wp2_with (first | (go_at_call 40; (refine (stTwo_any _ _ _ _ _).mono ?_; rw [H1.out]; rintro e w1 ⟨rfl, hb1⟩; have hs1 := hb1.size)) | (go_at_call 41; (refine (fmCount_any _ _).mono ?_; rw [H2.out]; rintro e w' ⟨rfl, rfl⟩)))
  simp at hs1
  have hbw : Below w.heap.size w w1 := (by repeat (first | exact Below.refl _ _ | assumption | refine Below.drew ?_ | refine below_drewN ?_ _ | refine Below.alloc ?_ (by first | omega | (simp; done) | (simp; omega)) _ | refine Below.setCell ?_ (by first | omega | (simp; done) | (simp; omega)) _ | refine Below.trans ?_ (Below.mono (by assumption) (by first | omega | (simp; done) | (simp; omega)))))
  have d00 : w1.cell? ⟨w.heap.size, 0, none⟩ = some (.int .i64 x1) := (hb1.cell (p := ⟨w.heap.size, 0, none⟩) (by first | omega | (simp; done) | (simp; omega))).trans (by go_simp)
  have d01 : w1.cell? ⟨w.heap.size, 1, none⟩ = some (.int .i64 y1) := (hb1.cell (p := ⟨w.heap.size, 1, none⟩) (by first | omega | (simp; done) | (simp; omega))).trans (by go_simp)
  have d10 : w1.cell? ⟨w.heap.size + 1, 0, none⟩ = some (.int .i64 x2) := (hb1.cell (p := ⟨w.heap.size + 1, 0, none⟩) (by first | omega | (simp; done) | (simp; omega))).trans (by go_simp)
  have d11 : w1.cell? ⟨w.heap.size + 1, 1, none⟩ = some (.int .i64 y2) := (hb1.cell (p := ⟨w.heap.size + 1, 1, none⟩) (by first | omega | (simp; done) | (simp; omega))).trans (by go_simp)
  clear hb1
  go_loopw [8, 9] (fun ov i wr => ∃ (k : Nat) (vo : Value), k ≤ N ∧ i = .int .i64 k ∧ ov = vo ∧ Hid (OwnPairs 24 wr (w.heap.size + 2) vo (wayTo L N k)) ∧  wr.cell? ⟨w.heap.size, 0, none⟩ = some (.int .i64 x1) ∧ wr.cell? ⟨w.heap.size, 1, none⟩ = some (.int .i64 y1) ∧ wr.cell? ⟨w.heap.size + 1, 0, none⟩ = some (.int .i64 x2) ∧ wr.cell? ⟨w.heap.size + 1, 1, none⟩ = some (.int .i64 y2)  ∧ Below w.heap.size w wr ∧ w.heap.size + 2 ≤ wr.heap.size) (fun _ i _ => N - (intOf i).toNat)
  case atStart => exact ⟨0, _, Nat.zero_le _, rfl, rfl, Lib.hid (own_nil _ _ _), d00, d01, d10, d11, hbw, by omega⟩
  case round =>
    clear d00 d01 d10 d11 hbw hs1
    obtain ⟨k, vo, hk, rfl, hv, HOWN, d00, d01, d10, d11, hbr, hws⟩ := hrel
    replace hv := hv.symm
    subst hv
    have hsr := hbr.size
    by_cases hlt : k < N
    · obtain ⟨acc, hacc⟩ : ∃ acc, acc = wayTo L N k := ⟨_, rfl⟩
      have hst := wayTo_step L N k
      rw [← hacc] at HOWN hst
      have hal : acc.length = k := by rw [hacc, wayTo_length]
      have hal9 : acc.length ≤ 12 := by omega
      obtain ⟨rx, hrx⟩ : ∃ r, r = bet x1 x2 k M := ⟨_, rfl⟩
      obtain ⟨ry, hry⟩ : ∃ r, r = bet y1 y2 k M := ⟨_, rfl⟩
      have HB := Lib.hid (fun W => fmBetween_any x1 y1 x2 y2 (k : Int) (M : Int) HON1.out HON2.out (by omega) (by omega) (by omega) (by omega) W)
      rw [← hrx, ← hry] at HB
      rw [HLL.out, wayP_two, ← HM.out, ← hrx, ← hry, ← HLL.out] at hst
      have HST := Lib.hid hst
      have HAL := Lib.hid hal
      have HOL := Lib.hid (World.ownsRow.lt HOWN.out)
      have HOWN2 := Lib.hid (fun (W : World) (hb : Below wr.heap.size wr W) => own_below HOWN.out hb)
      clear hacc hst hrx hry hal
      have i0 : (0 : Int) ≤ (k : Int) := by omega
      have i1 : (k : Int) < (N : Int) := by omega
      go_wp2_with fail
      go_region_held3 (fun w' =>  w'.cell? ⟨w.heap.size, 0, none⟩ = some (.int .i64 x1) ∧ w'.cell? ⟨w.heap.size, 1, none⟩ = some (.int .i64 y1) ∧ w'.cell? ⟨w.heap.size + 1, 0, none⟩ = some (.int .i64 x2) ∧ w'.cell? ⟨w.heap.size + 1, 1, none⟩ = some (.int .i64 y2) )
        (first | (refine ⟨?_, ?_, ?_, ?_⟩ <;> first | (go_keep; done) | (simp [*, World.cell?_alloc_past, World.cell?_setCell_far]; done) | (simp [*, World.cell?_alloc_past, World.cell?_alloc_at, World.cell?_setCell_far]; done) | (go_simp; done)) | (refine ⟨?_, ?_, ?_, ?_⟩ <;> first | (rw [hgrow5.cell_far _ (by first | omega | (simp; done) | (simp; omega)) (fun e => by have := HOL.out _ e.symm; first | omega | (simp at this; done) | (simp at this; omega))]; first | assumption | (go_simp; done))))
        (first | (go_at_call 43; ((with_reducible refine (HL.out _).mono ?_); rintro e w' ⟨rfl, rfl⟩)) | (go_at_call 42; ((with_reducible refine (HB.out _).mono ?_); rintro e w3 ⟨rfl, hb3⟩; have hs3 := hb3.size; (try simp at hs3); have q00 : w3.cell? ⟨w.heap.size, 0, none⟩ = _ := hb3.cell (p := ⟨w.heap.size, 0, none⟩) (by first | omega | (simp; done) | (simp; omega)); have q01 : w3.cell? ⟨w.heap.size, 1, none⟩ = _ := hb3.cell (p := ⟨w.heap.size, 1, none⟩) (by first | omega | (simp; done) | (simp; omega)); have q10 : w3.cell? ⟨w.heap.size + 1, 0, none⟩ = _ := hb3.cell (p := ⟨w.heap.size + 1, 0, none⟩) (by first | omega | (simp; done) | (simp; omega)); have q11 : w3.cell? ⟨w.heap.size + 1, 1, none⟩ = _ := hb3.cell (p := ⟨w.heap.size + 1, 1, none⟩) (by first | omega | (simp; done) | (simp; omega)))) | ((refine step_append_lies _ (by rfl) _ _ 32 (by rfl) (w.heap.size + 2) 24 j0 (.agg #[.int .i64 0, .int .i64 0]) 2 16 Try.underlying32 HI.out HZ0.out HZ1.out HZ2.out rfl (by omega) vo (acc.length) (pairV acc) (by rfl) (HOWN2.out _ (by repeat (first | exact Below.refl _ _ | assumption | refine Below.drew ?_ | refine below_drewN ?_ _ | refine Below.alloc ?_ (by first | omega | (simp; done) | (simp; omega)) _ | refine Below.setCell ?_ (by first | omega | (simp; done) | (simp; omega)) _ | refine Below.trans ?_ (Below.mono (by assumption) (by first | omega | (simp; done) | (simp; omega)))))) ⟨_, 0, none⟩ 1 1 [.int .i64 rx, .int .i64 ry] (by rfl) (by rfl) (World.news_of_block (cs := #[.int .i64 rx, .int .i64 ry]) (t := 24) (fr := (0, 0)) (heap_alloc_new _ _)) (by simp [Value.oneCell']) (by omega) (by unfold maxLen; omega) (by omega) (by simp; omega) _ rfl ?_; intro gg cap5 w5 hown5 hgrow5 hat5 hlt5)))
      all_goals
        obtain ⟨e00, e01, e10, e11⟩ :  w5.cell? ⟨w.heap.size, 0, none⟩ = some (.int .i64 x1) ∧ w5.cell? ⟨w.heap.size, 1, none⟩ = some (.int .i64 y1) ∧ w5.cell? ⟨w.heap.size + 1, 0, none⟩ = some (.int .i64 x2) ∧ w5.cell? ⟨w.heap.size + 1, 1, none⟩ = some (.int .i64 y2)  := by assumption
        have hb5 : Below w.heap.size w w5 := Below.grown (by repeat (first | exact Below.refl _ _ | assumption | refine Below.drew ?_ | refine below_drewN ?_ _ | refine Below.alloc ?_ (by first | omega | (simp; done) | (simp; omega)) _ | refine Below.setCell ?_ (by first | omega | (simp; done) | (simp; omega)) _ | refine Below.trans ?_ (Below.mono (by assumption) (by first | omega | (simp; done) | (simp; omega))))) hgrow5 (by first | (simp; omega) | omega) (fun q hq => by have := HOL.out q hq; omega)
        have hown6 : OwnPairs 24 w5 (w.heap.size + 2) (.slice (some ⟨gg, 0, none⟩) (acc.length + 1) cap5) (wayTo L N (k + 1)) := by rw [HST.out, OwnPairs, pairV_append, List.length_append]; simpa [pairV] using hown5
        have HO6 := Lib.hid hown6
        have hs6 := hgrow5.size
        (try simp at hs6)
        clear hat5 hgrow5 hown5 hown6
        have hs5 := hb5.size
        go_wp2
        go_roundw
        case rel => exact ⟨k + 1, _, by omega, by go_num, rfl, HO6, e00, e01, e10, e11, hb5, by omega⟩
        case measure => simp [intOf]; omega
    · obtain rfl : k = N := by omega
      have hl12 : (wayTo L k k).length ≤ 1048576 := by rw [wayTo_length]; omega
      have HC := Lib.hid (fun W ho => chIfS (w := W) (base := w.heap.size + 2) (v := vo) hl12 ho)
      rw [← HX.out, ← HBO.out] at HC
      have HOB := Lib.hid (fun (W : World) (hb : Below wr.heap.size wr W) => own_below HOWN.out hb)
      go_wp2_with (go_at_call 44; (refine (HC.out _ (HOB.out _ (by repeat (first | exact Below.refl _ _ | assumption | refine Below.drew ?_ | refine below_drewN ?_ _ | refine Below.alloc ?_ (by first | omega | (simp; done) | (simp; omega)) _ | refine Below.setCell ?_ (by first | omega | (simp; done) | (simp; omega)) _ | refine Below.trans ?_ (Below.mono (by assumption) (by first | omega | (simp; done) | (simp; omega))))))).mono ?_; rintro e w4 ⟨v4, rfl, ho4, hb4⟩; have hs4 := hb4.size))
      go_ret2
      exact ⟨_, rfl, own_mono ho4 (by omega), (by repeat (first | exact Below.refl _ _ | assumption | refine Below.drew ?_ | refine below_drewN ?_ _ | refine Below.alloc ?_ (by first | omega | (simp; done) | (simp; omega)) _ | refine Below.setCell ?_ (by first | omega | (simp; done) | (simp; omega)) _ | refine Below.trans ?_ (Below.mono (by assumption) (by first | omega | (simp; done) | (simp; omega)))))⟩
theorem specLine_any (x1 y1 x2 y2 n : Int) (w : World) :
    Calls Try.prog 16 #[.agg #[.int .i64 x1, .int .i64 y1], .agg #[.int .i64 x2, .int .i64 y2], .int .i64 n] w fun e w' => ∃ v, e = .returned (.tuple #[v, .bool (lineOk x1 y1 x2 y2 n && chOk (lineL x1 y1 x2 y2 n))]) ∧ OwnPairs 24 w' w.heap.size v (chIf (lineL x1 y1 x2 y2 n)) ∧ Below w.heap.size w w' := by
  cases hk : lineOk x1 y1 x2 y2 n
  · have e : lineL x1 y1 x2 y2 n = [] := by unfold lineL; rw [hk]; rfl
    rw [e, chIf_no (show chOk [] = false from rfl)]
    exact (specLine_no x1 y1 x2 y2 n hk w).mono fun e w' ⟨he, hb⟩ => ⟨_, he, own_nil _ _ _, hb⟩
  · have e : lineL x1 y1 x2 y2 n = wayTo [(x1, y1), (x2, y2)] n.toNat n.toNat := by unfold lineL; rw [if_pos hk]
    rw [e]
    unfold lineOk at hk
    rw [Bool.and_eq_true, Bool.and_eq_true, inB_iff] at hk
    obtain ⟨⟨o1, o2⟩, n0, n1⟩ := hk
    have h := specLine_yes x1 y1 x2 y2 n.toNat _ rfl o1 o2 (by omega) (by omega) _ _ rfl rfl w
    rw [Int.toNat_of_nonneg (by omega)] at h
    exact h

end Go.Proofs.Ytppnomflmacpkaa
