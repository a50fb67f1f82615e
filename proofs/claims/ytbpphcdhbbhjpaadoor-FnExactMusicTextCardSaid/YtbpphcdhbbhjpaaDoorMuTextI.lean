/- The text of music, both sides. No conditions but those written in each theorem (the library's table reads as it is laid). -/
import Derived.Test.YtbpphcdhbbhjpaaDoorMuText
import Derived.Test.YtbpphcdhbbhjpaaDoorMuImpl
import Derived.Test.YtbpphcdhbbhjpaaDoorItoa
import Derived.Test.YtbpphcdhbbhjpaaDoorJoins
import Derived.Deep.RegionHeld3
import Derived.Deep.DrawnRows
import Derived.Deep.AppendLies
import Derived.IntWalk
namespace Go.Proofs.YtbpphcdhbbhjpaaDoor
open Go.RowKit


attribute [local go_sem ↓] Go.wp_at_zero Go.wp_at_succ

set_option maxHeartbeats 1000000 in
theorem musicText_bad (a : Option Addr) (l : List (Int × Int)) (hl : l.length ≤ 1048576) {w : World} (ha : PairsAt w a l) (hg : musOk l = false) :
    Calls Tryd.prog 7 #[.slice a l.length l.length] w fun e w' => e = .returned (.tuple #[.string ⟨#[]⟩, .bool false]) ∧ Below w.heap.size w w' := by
  have HG := Lib.hid (fun (W : World) (hb : Below w.heap.size w W) => isMusic_any a l.length l hl (ha.below hb))
  skip
  all_goals
    go_enter Tryd.func7, Tryd.ntmps7
    go_wp2_with (first | (go_at_call 12; (refine (HG.out _ (by repeat (first | exact Below.refl _ _ | assumption | refine Below.drew ?_ | refine below_drewN ?_ _ | refine Below.alloc ?_ (by first | omega | (simp; done) | (simp; omega)) _ | refine Below.setCell ?_ (by first | omega | (simp; done) | (simp; omega)) _ | refine Below.trans ?_ (Below.mono (by assumption) (by first | omega | (simp; done) | (simp; omega)))))).mono ?_; rintro e w1 ⟨rfl, hb1⟩; have hs1 := hb1.size)))
    go_ret2
    exact ⟨rfl, (by repeat (first | exact Below.refl _ _ | assumption | refine Below.drew ?_ | refine below_drewN ?_ _ | refine Below.alloc ?_ (by first | omega | (simp; done) | (simp; omega)) _ | refine Below.setCell ?_ (by first | omega | (simp; done) | (simp; omega)) _ | refine Below.trans ?_ (Below.mono (by assumption) (by first | omega | (simp; done) | (simp; omega)))))⟩

/-- The texts of the first k measures. -/
def mtxs (l : List (Int × Int)) : Nat → List (List UInt8)
  | 0 => []
  | k + 1 => mtxs l k ++ [mtxt (sx l k) (sy l k)]
theorem mtxs_length (l : List (Int × Int)) : ∀ k, (mtxs l k).length = k
  | 0 => rfl
  | k + 1 => by rw [mtxs, List.length_append, mtxs_length l k]; rfl
theorem mtxs_join (l : List (Int × Int)) : ∀ k, Lib.join (mtxs l k) [32] = mutx l k
  | 0 => rfl
  | k + 1 => by
    by_cases h : k = 0
    · subst h
      rw [mutx_zero, mtxs, mtxs, List.nil_append, Lib.join_one]
    · have hne : mtxs l k ≠ [] := fun e => h (by have := mtxs_length l k; rw [e] at this; exact this.symm)
      rw [mutx_more l (by omega), mtxs, join_snoc _ _ hne, mtxs_join l k]
      rfl
/-- The same, as values. -/
def mtxsV (l : List (Int × Int)) (k : Nat) : List Value := (mtxs l k).map fun x => Value.string (bs x)

set_option maxHeartbeats 4000000 in
theorem musicText_yes (a : Option Addr) (l : List (Int × Int)) (hm : musOk l = true) {w : World} (ha : PairsAt w a l) (ht : Tab w.heap.size w) :
    Calls Tryd.prog 7 #[.slice a l.length l.length] w fun e w' => e = .returned (.tuple #[.string (muT l), .bool true]) ∧ Below w.heap.size w w' := by
  obtain ⟨n1, n2⟩ := musOk_len hm
  have hl : l.length ≤ 1048576 := by omega
  obtain ⟨j0, hi, hz0, hz1, hz2⟩ := info_parts Tryd.infoStr
  have HI := Lib.hid hi
  have HZ0 := Lib.hid hz0
  have HZ1 := Lib.hid hz1
  have HZ2 := Lib.hid hz2
  have HT := Lib.hid ht
  have HG := Lib.hid (fun (W : World) (hb : Below w.heap.size w W) => isMusic_any a l.length l hl (ha.below hb))
  have hat := fun j hj => musOk_at hm j hj
  have Hat := Lib.hid hat
  clear hat hi hz0 hz1 hz2 ht
  go_enter Tryd.func7, Tryd.ntmps7
  go_wp2_with (first | (go_at_call 12; (refine (HG.out _ (by repeat (first | exact Below.refl _ _ | assumption | refine Below.drew ?_ | refine below_drewN ?_ _ | refine Below.alloc ?_ (by first | omega | (simp; done) | (simp; omega)) _ | refine Below.setCell ?_ (by first | omega | (simp; done) | (simp; omega)) _ | refine Below.trans ?_ (Below.mono (by assumption) (by first | omega | (simp; done) | (simp; omega)))))).mono ?_; rintro e w1 ⟨rfl, hb1⟩; have hs1 := hb1.size)))
  have hbw : Below w.heap.size w w1 := hb1
  clear hb1 hs1 hm
  go_loopw [4, 12] (fun s i wr => ∃ (k : Nat) (vs : Value), k ≤ l.length ∧ i = .int .i64 k ∧ s = vs ∧ wr.ownsRow w.heap.size 9 1 vs k (mtxsV l k) ∧ Below w.heap.size w wr) (fun _ i _ => l.length - (intOf i).toNat)
  case atStart => exact ⟨0, _, Nat.zero_le _, rfl, rfl, ⟨rfl, .inl ⟨rfl, rfl⟩⟩, hbw⟩
  case round =>
    obtain ⟨k, vs, hk, rfl, hv, hown, hbr⟩ := hrel
    replace hv := hv.symm
    subst hv
    have hsr := hbr.size
    by_cases hlt : k < l.length
    · obtain ⟨b, off, rfl, c0, c1⟩ := (ha.below hbr) k hlt
      obtain ⟨⟨b3, b4⟩, b5, b6⟩ := Hat.out k hlt
      have hol := World.ownsRow.lt hown
      have ag : vs.ownBlock ≠ some wr.heap.size := fun e => by have := hol _ e; omega
      have HOL := Lib.hid hol
      have HOWN := Lib.hid (fun (W : World) (hb : Below wr.heap.size wr W) => own_below hown hb)
      obtain ⟨c, hc⟩ : ∃ c, c = sx l k := ⟨_, rfl⟩
      obtain ⟨t, ht⟩ : ∃ t, t = sy l k := ⟨_, rfl⟩
      have g1 := decL_size c.toNat (by omega)
      have g2 := decL_size t.toNat (by omega)
      obtain ⟨dc, hdc⟩ : ∃ d, d = decL c.toNat := ⟨_, rfl⟩
      obtain ⟨dt, hdt⟩ : ∃ d, d = decL t.toNat := ⟨_, rfl⟩
      obtain ⟨tt1, hm1⟩ : ∃ m, dc ++ [64] = m := ⟨_, rfl⟩
      obtain ⟨tt2, hm2⟩ : ∃ m, tt1 ++ dt = m := ⟨_, rfl⟩
      have k1 : tt1.length ≤ 31 := by rw [← hm1, hdc]; simp; omega
      have hr1 := cat_oneE (P := Tryd.prog) hm1 (by rw [hdc]; omega)
      have hr2 := cat_runE (P := Tryd.prog) hm2 (by rw [hdt]; omega)
      have hmt : tt2 = mtxt (sx l k) (sy l k) := by rw [← hm2, ← hm1, hdc, hdt, hc, ht]; unfold mtxt; simp
      have hnew : mtxsV l k ++ [.string (bs tt2)] = mtxsV l (k + 1) := by rw [hmt]; unfold mtxsV; rw [mtxs, List.map_append]; rfl
      have HN := Lib.hid hnew
      have NC := Lib.hid (fun (W : World) (hb : Below w.heap.size w W) => itoa_any c (by omega) (by omega) W (HT.out W hb))
      have NT := Lib.hid (fun (W : World) (hb : Below w.heap.size w W) => itoa_any t (by omega) (by omega) W (HT.out W hb))
      simp only [decT_list, ← hdc, ← hdt] at NC NT
      rw [← hc] at c0 b3 b4
      rw [← ht] at c1 b5 b6
      have hkl : (mtxsV l k).length = k := by unfold mtxsV; rw [List.length_map, mtxs_length]
      have HKL := Lib.hid hkl
      clear hc ht hnew hdc hdt g1 g2 hm1 hm2 hmt hkl hown hol
      go_wp2
      go_region_held3 (fun w' => w'.cell? ⟨wr.heap.size, 0, none⟩ = some (.int .i64 c) ∧ w'.cell? ⟨wr.heap.size, 1, none⟩ = some (.int .i64 t) ∧ wr.heap.size < w'.heap.size)
        (first | (refine ⟨?_, ?_, ?_⟩ <;> first | (go_keep; done) | (simp [*, World.cell?_alloc_past, World.cell?_setCell_far]; done) | (simp [*, World.cell?_alloc_past, World.cell?_alloc_at, World.cell?_setCell_far]; done) | (go_simp; done)) | (refine ⟨?_, ?_, ?_⟩ <;> first | (rw [hgrow5.cell_far _ (by simp; omega) (Ne.symm ag)]; first | assumption | (go_simp; done)) | (have hq5 := hgrow5.size; (try simp at hq5); omega)))
        (first | (go_at_call 13; ((with_reducible refine (NC.out _ (by repeat (first | exact Below.refl _ _ | assumption | refine Below.drew ?_ | refine below_drewN ?_ _ | refine Below.alloc ?_ (by first | omega | (simp; done) | (simp; omega)) _ | refine Below.setCell ?_ (by first | omega | (simp; done) | (simp; omega)) _ | refine Below.trans ?_ (Below.mono (by assumption) (by first | omega | (simp; done) | (simp; omega)))))).mono ?_); rintro e w1 ⟨rfl, hb1⟩; have hs1 := hb1.size; have m0 : w1.cell? ⟨wr.heap.size, 0, none⟩ = _ := hb1.cell (p := ⟨wr.heap.size, 0, none⟩) (by first | omega | (simp; done) | (simp; omega)); have m1 : w1.cell? ⟨wr.heap.size, 1, none⟩ = _ := hb1.cell (p := ⟨wr.heap.size, 1, none⟩) (by first | omega | (simp; done) | (simp; omega)); have m2 : wr.heap.size < w1.heap.size := (by have hq := hb1.size; (try simp at hq); omega))) | (go_at_call 13; ((with_reducible refine (NT.out _ (by repeat (first | exact Below.refl _ _ | assumption | refine Below.drew ?_ | refine below_drewN ?_ _ | refine Below.alloc ?_ (by first | omega | (simp; done) | (simp; omega)) _ | refine Below.setCell ?_ (by first | omega | (simp; done) | (simp; omega)) _ | refine Below.trans ?_ (Below.mono (by assumption) (by first | omega | (simp; done) | (simp; omega)))))).mono ?_); rintro e w1 ⟨rfl, hb1⟩; have hs1 := hb1.size; have m0 : w1.cell? ⟨wr.heap.size, 0, none⟩ = _ := hb1.cell (p := ⟨wr.heap.size, 0, none⟩) (by first | omega | (simp; done) | (simp; omega)); have m1 : w1.cell? ⟨wr.heap.size, 1, none⟩ = _ := hb1.cell (p := ⟨wr.heap.size, 1, none⟩) (by first | omega | (simp; done) | (simp; omega)); have m2 : wr.heap.size < w1.heap.size := (by have hq := hb1.size; (try simp at hq); omega))) | ((refine step_append_lies _ (by rfl) _ _ 36 (by rfl) w.heap.size 9 j0 (.string ⟨#[]⟩) 1 16 Tryd.underlying36 HI.out HZ0.out HZ1.out HZ2.out rfl (by omega) vs k (mtxsV l k) (by rfl) (HOWN.out _ (by repeat (first | exact Below.refl _ _ | assumption | refine Below.drew ?_ | refine below_drewN ?_ _ | refine Below.alloc ?_ (by first | omega | (simp; done) | (simp; omega)) _ | refine Below.setCell ?_ (by first | omega | (simp; done) | (simp; omega)) _ | refine Below.trans ?_ (Below.mono (by assumption) (by first | omega | (simp; done) | (simp; omega)))))) ⟨_, 0, none⟩ 1 1 [.string (bs tt2)] (by rfl) (by rfl) (World.news_of_block (cs := #[.string (bs tt2)]) (t := 9) (fr := (0, 0)) (heap_alloc_new _ _)) (by simp [Value.oneCell']) (by omega) (by unfold maxLen; omega) (by omega) (by simp; omega) _ rfl ?_; intro gg cap w5 hown5 hgrow5 hat5 hlt5)))
      all_goals
        have hb5 : Below w.heap.size w w5 := Below.grown (by repeat (first | exact Below.refl _ _ | assumption | refine Below.drew ?_ | refine below_drewN ?_ _ | refine Below.alloc ?_ (by first | omega | (simp; done) | (simp; omega)) _ | refine Below.setCell ?_ (by first | omega | (simp; done) | (simp; omega)) _ | refine Below.trans ?_ (Below.mono (by assumption) (by first | omega | (simp; done) | (simp; omega))))) hgrow5 (by first | (simp; omega) | omega) (fun q hq => (HOL.out q hq).1)
        clear hat5 hgrow5
        rw [HN.out] at hown5
        have hs5 := hb5.size
        go_wp2
        go_roundw
        case rel => exact ⟨k + 1, _, by omega, by go_num, rfl, hown5, (by repeat (first | exact Below.refl _ _ | assumption | refine Below.drew ?_ | refine below_drewN ?_ _ | refine Below.alloc ?_ (by first | omega | (simp; done) | (simp; omega)) _ | refine Below.setCell ?_ (by first | omega | (simp; done) | (simp; omega)) _ | refine Below.trans ?_ (Below.mono (by assumption) (by first | omega | (simp; done) | (simp; omega)))))⟩
        case measure => simp [intOf]; omega
    · obtain rfl : k = l.length := by omega
      have HJ := Lib.hid (fun (W : World) (hb : Below wr.heap.size wr W) => joinT_any (xs := mtxs l l.length) (v := vs) (base := w.heap.size) (by have h := own_below hown hb; rw [OwnStrs, mtxs_length]; exact h) (by rw [mtxs_length]; omega) (by rw [mtxs_length]; omega) [32] (mutx l l.length) (mtxs_join l l.length) (by have := mutx_size (l := l) (fun j hj => by have := Hat.out j hj; omega) l.length (Nat.le_refl _); omega))
      clear hown
      go_wp2_with (go_at_call 14; (refine (HJ.out _ (by repeat (first | exact Below.refl _ _ | assumption | refine Below.drew ?_ | refine below_drewN ?_ _ | refine Below.alloc ?_ (by first | omega | (simp; done) | (simp; omega)) _ | refine Below.setCell ?_ (by first | omega | (simp; done) | (simp; omega)) _ | refine Below.trans ?_ (Below.mono (by assumption) (by first | omega | (simp; done) | (simp; omega)))))).mono ?_; rintro e w1 ⟨rfl, hb1⟩; have hs1 := hb1.size))
      go_ret2
      exact ⟨rfl, (by repeat (first | exact Below.refl _ _ | assumption | refine Below.drew ?_ | refine below_drewN ?_ _ | refine Below.alloc ?_ (by first | omega | (simp; done) | (simp; omega)) _ | refine Below.setCell ?_ (by first | omega | (simp; done) | (simp; omega)) _ | refine Below.trans ?_ (Below.mono (by assumption) (by first | omega | (simp; done) | (simp; omega)))))⟩

/-- MusicText's answer. -/
def muTx (l : List (Int × Int)) : ByteArray := if musOk l then muT l else ⟨#[]⟩
theorem muTx_yes {l : List (Int × Int)} (h : musOk l = true) : muTx l = muT l := by unfold muTx; rw [if_pos h]
theorem muTx_no {l : List (Int × Int)} (h : musOk l = false) : muTx l = ⟨#[]⟩ := by unfold muTx; rw [h]; rfl

set_option maxHeartbeats 1000000 in
theorem specMusicText_no (a : Option Addr) (cap : Nat) (l : List (Int × Int)) (hl : l.length ≤ 1048576) {w : World} (ha : PairsAt w a l) (hg : musOk l = false) :
    Calls Tryd.prog 5 #[.slice a l.length cap] w fun e w' => e = .returned (.tuple #[.string ⟨#[]⟩, .bool false]) ∧ Below w.heap.size w w' := by
  have HG := Lib.hid (fun (W : World) (hb : Below w.heap.size w W) => muGood_any a cap l hl (ha.below hb))
  skip
  all_goals
    go_enter Tryd.func5, Tryd.ntmps5
    go_wp2_with (first | (go_at_call 9; (refine (HG.out _ (by repeat (first | exact Below.refl _ _ | assumption | refine Below.drew ?_ | refine below_drewN ?_ _ | refine Below.alloc ?_ (by first | omega | (simp; done) | (simp; omega)) _ | refine Below.setCell ?_ (by first | omega | (simp; done) | (simp; omega)) _ | refine Below.trans ?_ (Below.mono (by assumption) (by first | omega | (simp; done) | (simp; omega)))))).mono ?_; rintro e w1 ⟨rfl, hb1⟩; have hs1 := hb1.size)))
    go_ret2
    exact ⟨rfl, (by repeat (first | exact Below.refl _ _ | assumption | refine Below.drew ?_ | refine below_drewN ?_ _ | refine Below.alloc ?_ (by first | omega | (simp; done) | (simp; omega)) _ | refine Below.setCell ?_ (by first | omega | (simp; done) | (simp; omega)) _ | refine Below.trans ?_ (Below.mono (by assumption) (by first | omega | (simp; done) | (simp; omega)))))⟩

set_option maxHeartbeats 1000000 in
theorem specMusicText_yes (a : Option Addr) (cap : Nat) (l : List (Int × Int)) (hm : musOk l = true) {w : World} (ha : PairsAt w a l) :
    Calls Tryd.prog 5 #[.slice a l.length cap] w fun e w' => e = .returned (.tuple #[.string (muT l), .bool true]) ∧ Below w.heap.size w w' := by
  have hl : l.length ≤ 1048576 := by have := (musOk_len hm).2; omega
  have HG := Lib.hid (fun (W : World) (hb : Below w.heap.size w W) => muGood_any a cap l hl (ha.below hb))
  have HC := Lib.hid (fun (W : World) (hb : Below w.heap.size w W) => muText_any a cap l hm (ha.below hb))
  skip
  all_goals
    go_enter Tryd.func5, Tryd.ntmps5
    go_wp2_with (first | (go_at_call 9; (refine (HG.out _ (by repeat (first | exact Below.refl _ _ | assumption | refine Below.drew ?_ | refine below_drewN ?_ _ | refine Below.alloc ?_ (by first | omega | (simp; done) | (simp; omega)) _ | refine Below.setCell ?_ (by first | omega | (simp; done) | (simp; omega)) _ | refine Below.trans ?_ (Below.mono (by assumption) (by first | omega | (simp; done) | (simp; omega)))))).mono ?_; rintro e w1 ⟨rfl, hb1⟩; have hs1 := hb1.size)) | (go_at_call 10; (refine (HC.out _ (by repeat (first | exact Below.refl _ _ | assumption | refine Below.drew ?_ | refine below_drewN ?_ _ | refine Below.alloc ?_ (by first | omega | (simp; done) | (simp; omega)) _ | refine Below.setCell ?_ (by first | omega | (simp; done) | (simp; omega)) _ | refine Below.trans ?_ (Below.mono (by assumption) (by first | omega | (simp; done) | (simp; omega)))))).mono ?_; rintro e w1 ⟨rfl, hb1⟩; have hs1 := hb1.size)))
    go_ret2
    exact ⟨rfl, (by repeat (first | exact Below.refl _ _ | assumption | refine Below.drew ?_ | refine below_drewN ?_ _ | refine Below.alloc ?_ (by first | omega | (simp; done) | (simp; omega)) _ | refine Below.setCell ?_ (by first | omega | (simp; done) | (simp; omega)) _ | refine Below.trans ?_ (Below.mono (by assumption) (by first | omega | (simp; done) | (simp; omega)))))⟩

theorem specMusicText_any (a : Option Addr) (cap : Nat) (l : List (Int × Int)) (hl : l.length ≤ 1048576) {w : World} (ha : PairsAt w a l) :
    Calls Tryd.prog 5 #[.slice a l.length cap] w fun e w' => e = .returned (.tuple #[.string (muTx l), .bool (musOk l)]) ∧ Below w.heap.size w w' := by
  cases hm : musOk l
  · rw [muTx_no hm]; exact specMusicText_no a cap l hl ha hm
  · rw [muTx_yes hm]; exact specMusicText_yes a cap l hm ha
theorem musicText_any (a : Option Addr) (l : List (Int × Int)) (hl : l.length ≤ 1048576) {w : World} (ha : PairsAt w a l) (ht : Tab w.heap.size w) :
    Calls Tryd.prog 7 #[.slice a l.length l.length] w fun e w' => e = .returned (.tuple #[.string (muTx l), .bool (musOk l)]) ∧ Below w.heap.size w w' := by
  cases hm : musOk l
  · rw [muTx_no hm]; exact musicText_bad a l hl ha hm
  · rw [muTx_yes hm]; exact musicText_yes a l hm ha ht

end Go.Proofs.YtbpphcdhbbhjpaaDoor
