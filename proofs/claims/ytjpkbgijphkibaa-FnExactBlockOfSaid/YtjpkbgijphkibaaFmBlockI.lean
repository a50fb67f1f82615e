/- Blocks, the program's side. No conditions but those written in each theorem. -/
import Derived.Test.YtjpkbgijphkibaaFmBlockS
import Derived.Deep.RegionHeld3
import Derived.Deep.DrawnRows
import Derived.IntWalk
import Derived.Laws.AppendOwn
import Derived.Deep.AppendLies
namespace Go.Proofs.Ytjpkbgijphkibaa
open Go.RowKit


attribute [local go_sem ↓] Go.wp_at_zero Go.wp_at_succ

set_option maxHeartbeats 4000000 in
theorem block_no (x1 y1 rows files dx dy : Int) (hk : blkG x1 y1 rows files dx dy = false) (w : World) :
    Calls Try.prog 19 #[.agg #[.int .i64 x1, .int .i64 y1], .int .i64 rows, .int .i64 files, .int .i64 dx, .int .i64 dy] w fun e w' => e = .returned (.tuple #[.slice none 0 0, .bool false]) ∧ Below w.heap.size w w' := by
  unfold blkG at hk
  cases h1 : onField x1 y1 <;> cases h2 : inB 1 rows 12 <;> cases h3 : inB 1 files 12 <;> cases h4 : inB (-200) dx 200 <;> cases h5 : inB (-200) dy 200
  all_goals first | (exfalso; rw [h1, h2, h3, h4, h5] at hk; cases hk; done) | clear hk
  all_goals
    have H1 := Lib.hid h1
    have HCA := Lib.hid (fun W => isPerformers_any rows W)
    have HCB := Lib.hid (fun W => isPerformers_any files W)
    have HRA := Lib.hid (fun W => inRange_any dx (-200) 200 W)
    have HRB := Lib.hid (fun W => inRange_any dy (-200) 200 W)
    rw [h2] at HCA
    rw [h3] at HCB
    rw [h4] at HRA
    rw [h5] at HRB
    clear h1 h2 h3 h4 h5
    go_enter Try.func19, Try.ntmps19
    go_wp2_with (first | (go_at_call 48; (refine (isSpot_any _ _ _).mono ?_; rw [H1.out]; rintro e w1 ⟨rfl, hb1⟩; have hs1 := hb1.size; (try simp at hs1); have d0 : w1.cell? ⟨w.heap.size, 0, none⟩ = some (.int .i64 x1) := (hb1.cell (p := ⟨w.heap.size, 0, none⟩) (by first | omega | (simp; done) | (simp; omega))).trans (by go_simp); have d1 : w1.cell? ⟨w.heap.size, 1, none⟩ = some (.int .i64 y1) := (hb1.cell (p := ⟨w.heap.size, 1, none⟩) (by first | omega | (simp; done) | (simp; omega))).trans (by go_simp))) | (go_at_call 43; ((with_reducible refine (HCA.out _).mono ?_); rintro e w' ⟨rfl, rfl⟩)) | (go_at_call 43; ((with_reducible refine (HCB.out _).mono ?_); rintro e w' ⟨rfl, rfl⟩)) | (go_at_call 49; ((with_reducible refine (HRA.out _).mono ?_); rintro e w' ⟨rfl, rfl⟩)) | (go_at_call 49; ((with_reducible refine (HRB.out _).mono ?_); rintro e w' ⟨rfl, rfl⟩)))
    go_ret2
    exact ⟨rfl, (by repeat (first | exact Below.refl _ _ | assumption | refine Below.drew ?_ | refine below_drewN ?_ _ | refine Below.alloc ?_ (by first | omega | (simp; done) | (simp; omega)) _ | refine Below.setCell ?_ (by first | omega | (simp; done) | (simp; omega)) _ | refine Below.trans ?_ (Below.mono (by assumption) (by first | omega | (simp; done) | (simp; omega)))))⟩

set_option maxHeartbeats 8000000 in
theorem block_yes (x1 y1 : Int) (rn fl : Nat) (dx dy : Int) (h1 : onField x1 y1 = true) (r0 : 1 ≤ rn) (r1 : rn ≤ 12) (f0 : 1 ≤ fl) (f1 : fl ≤ 12) (a0 : -200 ≤ dx) (a1 : dx ≤ 200) (b0 : -200 ≤ dy) (b1 : dy ≤ 200) (w : World) :
    Calls Try.prog 19 #[.agg #[.int .i64 x1, .int .i64 y1], .int .i64 rn, .int .i64 fl, .int .i64 dx, .int .i64 dy] w fun e w' => ∃ v, e = .returned (.tuple #[v, .bool (chOk (blkL x1 y1 dx dy fl rn))]) ∧ OwnPairs 27 w' w.heap.size v (chIf (blkL x1 y1 dx dy fl rn)) ∧ Below w.heap.size w w' := by
  obtain ⟨j0, hi, hz0, hz1, hz2⟩ := info_parts Try.infoSpot
  have HI := Lib.hid hi
  have HZ0 := Lib.hid hz0
  have HZ1 := Lib.hid hz1
  have HZ2 := Lib.hid hz2
  clear hi hz0 hz1 hz2
  have hon := onField_iff.1 h1
  obtain ⟨⟨o1, o2⟩, o3, o4⟩ := hon
  have H1 := Lib.hid h1
  have HCA := Lib.hid (fun W => isPerformers_any (rn : Int) W)
  have HCB := Lib.hid (fun W => isPerformers_any (fl : Int) W)
  have HRA := Lib.hid (fun W => inRange_any dx (-200) 200 W)
  have HRB := Lib.hid (fun W => inRange_any dy (-200) 200 W)
  rw [inB_iff.2 (show 1 ≤ (rn : Int) ∧ (rn : Int) ≤ 12 from ⟨by omega, by omega⟩)] at HCA
  rw [inB_iff.2 (show 1 ≤ (fl : Int) ∧ (fl : Int) ≤ 12 from ⟨by omega, by omega⟩)] at HCB
  rw [inB_iff.2 (show -200 ≤ dx ∧ dx ≤ 200 from ⟨a0, a1⟩)] at HRA
  rw [inB_iff.2 (show -200 ≤ dy ∧ dy ≤ 200 from ⟨b0, b1⟩)] at HRB
  have hln : (blkL x1 y1 dx dy fl rn).length ≤ 1048576 := by
    rw [blkL_length]
    have : rn * fl ≤ 12 * 12 := Nat.mul_le_mul r1 f1
    omega
  have HFO := Lib.hid (fun W b v ho => formOf (w := W) (base := b) (v := v) hln ho)
  obtain ⟨BX, hbx⟩ : ∃ bx, bx = blkL x1 y1 dx dy fl rn := ⟨_, rfl⟩
  rw [← hbx] at HFO ⊢
  have HBX := Lib.hid hbx
  clear h1 hln hbx
  go_enter Try.func19, Try.ntmps19
  go_wp2_with (first | (go_at_call 48; (refine (isSpot_any _ _ _).mono ?_; rw [H1.out]; rintro e w1 ⟨rfl, hb1⟩; have hs1 := hb1.size; (try simp at hs1); have d0 : w1.cell? ⟨w.heap.size, 0, none⟩ = some (.int .i64 x1) := (hb1.cell (p := ⟨w.heap.size, 0, none⟩) (by first | omega | (simp; done) | (simp; omega))).trans (by go_simp); have d1 : w1.cell? ⟨w.heap.size, 1, none⟩ = some (.int .i64 y1) := (hb1.cell (p := ⟨w.heap.size, 1, none⟩) (by first | omega | (simp; done) | (simp; omega))).trans (by go_simp))) | (go_at_call 43; ((with_reducible refine (HCA.out _).mono ?_); rintro e w' ⟨rfl, rfl⟩)) | (go_at_call 43; ((with_reducible refine (HCB.out _).mono ?_); rintro e w' ⟨rfl, rfl⟩)) | (go_at_call 49; ((with_reducible refine (HRA.out _).mono ?_); rintro e w' ⟨rfl, rfl⟩)) | (go_at_call 49; ((with_reducible refine (HRB.out _).mono ?_); rintro e w' ⟨rfl, rfl⟩)))
  have hbw : Below w.heap.size w w1 := (by repeat (first | exact Below.refl _ _ | assumption | refine Below.drew ?_ | refine below_drewN ?_ _ | refine Below.alloc ?_ (by first | omega | (simp; done) | (simp; omega)) _ | refine Below.setCell ?_ (by first | omega | (simp; done) | (simp; omega)) _ | refine Below.trans ?_ (Below.mono (by assumption) (by first | omega | (simp; done) | (simp; omega)))))
  clear hb1
  go_loopw [12, 37] (fun ov i wr => ∃ (r : Nat) (vo : Value), r ≤ rn ∧ i = .int .i64 r ∧ ov = vo ∧ Hid (OwnPairs 27 wr (w.heap.size + 1) vo (blkL x1 y1 dx dy fl r)) ∧ wr.cell? ⟨w.heap.size, 0, none⟩ = some (.int .i64 x1) ∧ wr.cell? ⟨w.heap.size, 1, none⟩ = some (.int .i64 y1) ∧ Below w.heap.size w wr ∧ w.heap.size + 1 ≤ wr.heap.size) (fun _ i _ => rn - (intOf i).toNat)
  case atStart => exact ⟨0, _, Nat.zero_le _, rfl, rfl, Lib.hid (own_nil _ _ _), d0, d1, hbw, by omega⟩
  case round =>
    clear d0 d1 hbw hs1
    obtain ⟨r, vo, hr, rfl, hv, HOWN, d0, d1, hbr, hws⟩ := hrel
    obtain ⟨wo, rfl⟩ : ∃ wo, wo = wr := ⟨_, rfl⟩
    replace hv := hv.symm
    subst hv
    have hsr := hbr.size
    by_cases hlt : r < rn
    · have i0 : (0 : Int) ≤ (r : Int) := by omega
      have i1 : (r : Int) < (rn : Int) := by omega
      obtain ⟨pr1, pr2⟩ := prod12 (d := dy) (k := r) b0 b1 (by omega)
      obtain ⟨acc, hacc⟩ : ∃ acc, acc = blkL x1 y1 dx dy fl r := ⟨_, rfl⟩
      have HAC := Lib.hid (show blkL x1 y1 dx dy fl (r + 1) = acc ++ blkR x1 y1 dx dy r fl from by rw [hacc]; rfl)
      have hal : acc.length ≤ 144 := by
        rw [hacc, blkL_length]
        have : r * fl ≤ 12 * 12 := Nat.mul_le_mul (by omega) f1
        omega
      rw [← hacc] at HOWN
      clear hacc
      go_wp2
      go_loopw [12, 41] (fun ov i wr => ∃ (k : Nat) (vo : Value), k ≤ fl ∧ i = .int .i64 k ∧ ov = vo ∧ Hid (OwnPairs 27 wr (w.heap.size + 1) vo (acc ++ blkR x1 y1 dx dy r k)) ∧ wr.cell? ⟨w.heap.size, 0, none⟩ = some (.int .i64 x1) ∧ wr.cell? ⟨w.heap.size, 1, none⟩ = some (.int .i64 y1) ∧ Below w.heap.size w wr ∧ w.heap.size + 1 ≤ wr.heap.size) (fun _ i _ => fl - (intOf i).toNat)
      case atStart => exact ⟨0, _, Nat.zero_le _, rfl, rfl, Lib.hid (by rw [blkR, List.append_nil]; exact HOWN.out), d0, d1, hbr, hws⟩
      case round =>
        clear HOWN d0 d1 hbr hws hsr
        obtain ⟨k, vk, hk, rfl, hv, HOWN, d0, d1, hbr, hws⟩ := hrel
        replace hv := hv.symm
        subst hv
        have hsr := hbr.size
        by_cases hlk : k < fl
        · obtain ⟨ps1, ps2⟩ := prod12 (d := dx) (k := k) a0 a1 (by omega)
          obtain ⟨ac2, hac2⟩ : ∃ ac, ac = acc ++ blkR x1 y1 dx dy r k := ⟨_, rfl⟩
          have HA2 := Lib.hid (show acc ++ blkR x1 y1 dx dy r (k + 1) = ac2 ++ [(x1 + dx * (k : Int), y1 + dy * (r : Int))] from by rw [hac2, blkR, List.append_assoc])
          have ha2 : ac2.length ≤ 156 := by rw [hac2, List.length_append, blkR_length]; omega
          rw [← hac2] at HOWN
          clear hac2
          have HOL := Lib.hid (World.ownsRow.lt HOWN.out)
          have HOWN2 := Lib.hid (fun (W : World) (hb : Below wr.heap.size wr W) => own_below HOWN.out hb)
          have i2 : (0 : Int) ≤ (k : Int) := by omega
          have i3 : (k : Int) < (fl : Int) := by omega
          have v1 : IntKind.i64.wrap (dx * (k : Int)) = dx * (k : Int) := IntWalk.i64_in _ (by omega)
          have v2 : IntKind.i64.wrap (dy * (r : Int)) = dy * (r : Int) := IntWalk.i64_in _ (by omega)
          have v3 : IntKind.i64.wrap (x1 + dx * (k : Int)) = x1 + dx * (k : Int) := IntWalk.i64_in _ (by omega)
          have v4 : IntKind.i64.wrap (y1 + dy * (r : Int)) = y1 + dy * (r : Int) := IntWalk.i64_in _ (by omega)
          have w1' : wrap64 (dx * (k : Int)) = dx * (k : Int) := IntWalk.wrap64_in _ ⟨by omega, by omega⟩
          have w2' : wrap64 (dy * (r : Int)) = dy * (r : Int) := IntWalk.wrap64_in _ ⟨by omega, by omega⟩
          go_wp2_with (first | (at_builtin; refine wpList_append_lies _ rfl _ _ 24 rfl (w.heap.size + 1) 27 j0 (.agg #[.int .i64 0, .int .i64 0]) 2 16 Try.underlying24 HI.out HZ0.out HZ1.out HZ2.out rfl (by omega) vk (ac2.length) (pairV ac2) rfl (HOWN2.out _ (by repeat (first | exact Below.refl _ _ | assumption | refine Below.drew ?_ | refine below_drewN ?_ _ | refine Below.alloc ?_ (by first | omega | (simp; done) | (simp; omega)) _ | refine Below.setCell ?_ (by first | omega | (simp; done) | (simp; omega)) _ | refine Below.trans ?_ (Below.mono (by assumption) (by first | omega | (simp; done) | (simp; omega)))))) ⟨_, 0, none⟩ 1 1 [.int .i64 (x1 + dx * (k : Int)), .int .i64 (y1 + dy * (r : Int))] rfl rfl (World.news_of_block (cs := #[.int .i64 (x1 + dx * (k : Int)), .int .i64 (y1 + dy * (r : Int))]) (t := 27) (fr := (0, 0)) (heap_alloc_new _ _)) (by simp [Value.oneCell']) (by omega) (by unfold maxLen; omega) (by omega) (by simp; omega) _ rfl ?_; intro gg cap5 w5 hown5 hgrow5 hat5 hlt5))
          have hne : ∀ b, b ≤ w.heap.size → some b ≠ vk.ownBlock := fun b hb e => by have := HOL.out b e.symm; omega
          have e0 : w5.cell? ⟨w.heap.size, 0, none⟩ = some (.int .i64 x1) := (hgrow5.cell_far ⟨w.heap.size, 0, none⟩ (by first | omega | (simp; done) | (simp; omega)) (hne _ (Nat.le_refl _))).trans ((World.cell?_alloc_past _ _ _ (by omega)).trans d0)
          have e1 : w5.cell? ⟨w.heap.size, 1, none⟩ = some (.int .i64 y1) := (hgrow5.cell_far ⟨w.heap.size, 1, none⟩ (by first | omega | (simp; done) | (simp; omega)) (hne _ (Nat.le_refl _))).trans ((World.cell?_alloc_past _ _ _ (by omega)).trans d1)
          have hb5 : Below w.heap.size w w5 := Below.grown (by repeat (first | exact Below.refl _ _ | assumption | refine Below.drew ?_ | refine below_drewN ?_ _ | refine Below.alloc ?_ (by first | omega | (simp; done) | (simp; omega)) _ | refine Below.setCell ?_ (by first | omega | (simp; done) | (simp; omega)) _ | refine Below.trans ?_ (Below.mono (by assumption) (by first | omega | (simp; done) | (simp; omega))))) hgrow5 (by first | (simp; omega) | omega) (fun q hq => by have := HOL.out q hq; omega)
          have hown6 : OwnPairs 27 w5 (w.heap.size + 1) (.slice (some ⟨gg, 0, none⟩) (ac2.length + 1) cap5) (acc ++ blkR x1 y1 dx dy r (k + 1)) := by rw [HA2.out, OwnPairs, pairV_append, List.length_append]; simpa [pairV] using hown5
          have HO6 := Lib.hid hown6
          have hs6 := hgrow5.size
          (try simp at hs6)
          clear hat5 hgrow5 hown5 hown6 hne
          have hs5 := hb5.size
          go_wp2
          go_roundw
          case rel => exact ⟨k + 1, _, by omega, by go_num, rfl, HO6, e0, e1, hb5, by omega⟩
          case measure => simp [intOf]; omega
        · obtain rfl : k = fl := by omega
          go_wp2
          go_roundw
          case rel => exact ⟨r + 1, _, by omega, by go_num, rfl, Lib.hid (by rw [HAC.out]; exact HOWN.out), d0, d1, hbr, hws⟩
          case measure => simp [intOf]; omega
    · obtain rfl : r = rn := by omega
      have HOB := Lib.hid (fun (W : World) (hb : Below wo.heap.size wo W) => (show OwnPairs 27 W (w.heap.size + 1) vo BX from by rw [HBX.out]; exact own_below HOWN.out hb))
      go_wp2_with (go_at_call 44; (refine (HFO.out _ _ _ (HOB.out _ (by repeat (first | exact Below.refl _ _ | assumption | refine Below.drew ?_ | refine below_drewN ?_ _ | refine Below.alloc ?_ (by first | omega | (simp; done) | (simp; omega)) _ | refine Below.setCell ?_ (by first | omega | (simp; done) | (simp; omega)) _ | refine Below.trans ?_ (Below.mono (by assumption) (by first | omega | (simp; done) | (simp; omega))))))).mono ?_; rintro e w4 ⟨v4, rfl, ho4, hb4⟩; have hs4 := hb4.size))
      go_ret2
      exact ⟨_, rfl, own_mono ho4 (by omega), (by repeat (first | exact Below.refl _ _ | assumption | refine Below.drew ?_ | refine below_drewN ?_ _ | refine Below.alloc ?_ (by first | omega | (simp; done) | (simp; omega)) _ | refine Below.setCell ?_ (by first | omega | (simp; done) | (simp; omega)) _ | refine Below.trans ?_ (Below.mono (by assumption) (by first | omega | (simp; done) | (simp; omega)))))⟩
theorem block_any (x1 y1 rows files dx dy : Int) (w : World) :
    Calls Try.prog 19 #[.agg #[.int .i64 x1, .int .i64 y1], .int .i64 rows, .int .i64 files, .int .i64 dx, .int .i64 dy] w fun e w' => ∃ v, e = .returned (.tuple #[v, .bool (blkG x1 y1 rows files dx dy && chOk (blkO x1 y1 rows files dx dy))]) ∧ OwnPairs 27 w' w.heap.size v (chIf (blkO x1 y1 rows files dx dy)) ∧ Below w.heap.size w w' := by
  cases hk : blkG x1 y1 rows files dx dy
  · have e : blkO x1 y1 rows files dx dy = [] := by unfold blkO; rw [hk]; rfl
    rw [e, chIf_no (show chOk [] = false from rfl)]
    exact (block_no x1 y1 rows files dx dy hk w).mono fun e w' ⟨he, hb⟩ => ⟨_, he, own_nil _ _ _, hb⟩
  · have e : blkO x1 y1 rows files dx dy = blkL x1 y1 dx dy files.toNat rows.toNat := by unfold blkO; rw [if_pos hk]
    rw [e]
    unfold blkG at hk
    simp only [Bool.and_eq_true, inB_iff] at hk
    obtain ⟨⟨⟨⟨o1, r0, r1⟩, f0, f1⟩, a0, a1⟩, b0, b1⟩ := hk
    have h := block_yes x1 y1 rows.toNat files.toNat dx dy o1 (by omega) (by omega) (by omega) (by omega) a0 a1 b0 b1 w
    rw [Int.toNat_of_nonneg (by omega), Int.toNat_of_nonneg (by omega)] at h
    exact h

end Go.Proofs.Ytjpkbgijphkibaa
