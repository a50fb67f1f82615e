/- Joined forms, both sides. No conditions but those written in each theorem. -/
import Derived.Test.YtjpkbgijphkibaaChIf
import Derived.Test.YtjpkbgijphkibaaCatSpot
import Derived.Deep.RegionHeld3
import Derived.Deep.DrawnRows
import Derived.IntWalk
import Derived.Laws.AppendOwn
import Derived.Deep.AppendLies
namespace Go.Proofs.Ytjpkbgijphkibaa
open Go.RowKit


attribute [local go_sem ↓] Go.wp_at_zero Go.wp_at_succ

/-- Two forms, joined, if they are forms. -/
def joinO (l m : List (Int × Int)) : Bool := chOk l && chOk m
def joinL (l m : List (Int × Int)) : List (Int × Int) := if joinO l m then l ++ m else []
theorem joinL_length (l m : List (Int × Int)) : (joinL l m).length ≤ 24 := by
  unfold joinL
  split
  · rename_i h
    unfold joinO at h
    rw [Bool.and_eq_true] at h
    have h1 := (chOk_parts h.1).2.2.2
    have h2 := (chOk_parts h.2).2.2.2
    rw [List.length_append]
    omega
  · simp

set_option maxHeartbeats 1000000 in
theorem specJoin_no (a1 : Option Addr) (cap1 : Nat) (l1 : List (Int × Int)) (hl1 : l1.length ≤ 1048576) (hc1 : l1.length ≤ cap1) (a2 : Option Addr) (cap2 : Nat) (l2 : List (Int × Int)) (hl2 : l2.length ≤ 1048576) (hc2 : l2.length ≤ cap2) {w : World} (ha1 : PairsAt w a1 l1) (ha2 : PairsAt w a2 l2) (hk : joinO l1 l2 = false) :
    Calls Try.prog 24 #[.slice a1 l1.length cap1, .slice a2 l2.length cap2] w fun e w' => e = .returned (.tuple #[.slice none 0 0, .bool false]) ∧ Below w.heap.size w w' := by
  have h1s := fun (W : World) (hb : Below w.heap.size w W) => chGood_any a1 cap1 l1 hl1 hc1 (ha1.below hb)
  have h2s := fun (W : World) (hb : Below w.heap.size w W) => chGood_any a2 cap2 l2 hl2 hc2 (ha2.below hb)
  unfold joinO at hk
  cases h1 : chOk l1 <;> cases h2 : chOk l2
  all_goals first | (exfalso; rw [h1, h2] at hk; cases hk; done) | clear hk
  all_goals
    rw [h1] at h1s
    rw [h2] at h2s
    have HS1 := Lib.hid h1s
    have HS2 := Lib.hid h2s
    clear h1 h2 h1s h2s
    go_enter Try.func24, Try.ntmps24
    go_wp2_with (first | (go_at_call 52; ((with_reducible refine (HS1.out _ (by repeat (first | exact Below.refl _ _ | assumption | refine Below.drew ?_ | refine below_drewN ?_ _ | refine Below.alloc ?_ (by first | omega | (simp; done) | (simp; omega)) _ | refine Below.setCell ?_ (by first | omega | (simp; done) | (simp; omega)) _ | refine Below.trans ?_ (Below.mono (by assumption) (by first | omega | (simp; done) | (simp; omega)))))).mono ?_); rintro e w1 ⟨rfl, hb1⟩; have hs1 := hb1.size)) | (go_at_call 52; ((with_reducible refine (HS2.out _ (by repeat (first | exact Below.refl _ _ | assumption | refine Below.drew ?_ | refine below_drewN ?_ _ | refine Below.alloc ?_ (by first | omega | (simp; done) | (simp; omega)) _ | refine Below.setCell ?_ (by first | omega | (simp; done) | (simp; omega)) _ | refine Below.trans ?_ (Below.mono (by assumption) (by first | omega | (simp; done) | (simp; omega)))))).mono ?_); rintro e w2 ⟨rfl, hb2⟩; have hs2 := hb2.size)))
    go_ret2
    exact ⟨rfl, (by repeat (first | exact Below.refl _ _ | assumption | refine Below.drew ?_ | refine below_drewN ?_ _ | refine Below.alloc ?_ (by first | omega | (simp; done) | (simp; omega)) _ | refine Below.setCell ?_ (by first | omega | (simp; done) | (simp; omega)) _ | refine Below.trans ?_ (Below.mono (by assumption) (by first | omega | (simp; done) | (simp; omega)))))⟩

set_option maxHeartbeats 1000000 in
theorem join_no (a1 : Option Addr) (cap1 : Nat) (l1 : List (Int × Int)) (hl1 : l1.length ≤ 1048576) (a2 : Option Addr) (cap2 : Nat) (l2 : List (Int × Int)) (hl2 : l2.length ≤ 1048576) {w : World} (ha1 : PairsAt w a1 l1) (ha2 : PairsAt w a2 l2) (hk : joinO l1 l2 = false) :
    Calls Try.prog 25 #[.slice a1 l1.length cap1, .slice a2 l2.length cap2] w fun e w' => e = .returned (.tuple #[.slice none 0 0, .bool false]) ∧ Below w.heap.size w w' := by
  have h1s := fun (W : World) (hb : Below w.heap.size w W) => isChart_any a1 cap1 l1 hl1 (ha1.below hb)
  have h2s := fun (W : World) (hb : Below w.heap.size w W) => isChart_any a2 cap2 l2 hl2 (ha2.below hb)
  unfold joinO at hk
  cases h1 : chOk l1 <;> cases h2 : chOk l2
  all_goals first | (exfalso; rw [h1, h2] at hk; cases hk; done) | clear hk
  all_goals
    rw [h1] at h1s
    rw [h2] at h2s
    have HS1 := Lib.hid h1s
    have HS2 := Lib.hid h2s
    clear h1 h2 h1s h2s
    go_enter Try.func25, Try.ntmps25
    go_wp2_with (first | (go_at_call 54; ((with_reducible refine (HS1.out _ (by repeat (first | exact Below.refl _ _ | assumption | refine Below.drew ?_ | refine below_drewN ?_ _ | refine Below.alloc ?_ (by first | omega | (simp; done) | (simp; omega)) _ | refine Below.setCell ?_ (by first | omega | (simp; done) | (simp; omega)) _ | refine Below.trans ?_ (Below.mono (by assumption) (by first | omega | (simp; done) | (simp; omega)))))).mono ?_); rintro e w1 ⟨rfl, hb1⟩; have hs1 := hb1.size)) | (go_at_call 54; ((with_reducible refine (HS2.out _ (by repeat (first | exact Below.refl _ _ | assumption | refine Below.drew ?_ | refine below_drewN ?_ _ | refine Below.alloc ?_ (by first | omega | (simp; done) | (simp; omega)) _ | refine Below.setCell ?_ (by first | omega | (simp; done) | (simp; omega)) _ | refine Below.trans ?_ (Below.mono (by assumption) (by first | omega | (simp; done) | (simp; omega)))))).mono ?_); rintro e w2 ⟨rfl, hb2⟩; have hs2 := hb2.size)))
    go_ret2
    exact ⟨rfl, (by repeat (first | exact Below.refl _ _ | assumption | refine Below.drew ?_ | refine below_drewN ?_ _ | refine Below.alloc ?_ (by first | omega | (simp; done) | (simp; omega)) _ | refine Below.setCell ?_ (by first | omega | (simp; done) | (simp; omega)) _ | refine Below.trans ?_ (Below.mono (by assumption) (by first | omega | (simp; done) | (simp; omega)))))⟩

theorem slat_two {w : World} {b1 off1 cap1 b2 off2 cap2 : Nat} {l1 l2 : List (Int × Int)} (h1 : PairsAt w (some ⟨b1, off1, none⟩) l1) (h2 : PairsAt w (some ⟨b2, off2, none⟩) l2) :
    SlAtSpot (w.alloc (.cells #[.slice (some ⟨b1, off1, none⟩) l1.length cap1, .slice (some ⟨b2, off2, none⟩) l2.length cap2] 24)) w.heap.size [(⟨b1, off1, none⟩, cap1, l1), (⟨b2, off2, none⟩, cap2, l2)] := by
  intro i hi
  match i, hi with
  | 0, _ =>
    refine ⟨by rw [World.cell?_alloc_at _ _ _ _ rfl]; rfl, fun j u hj => ?_⟩
    show (World.alloc _ _).cell? ((⟨b1, off1, none⟩ : Addr).add j) = some u
    rw [Addr.add_lit]
    exact pairs_cells (h1.alloc _) j u hj
  | 1, _ =>
    refine ⟨by rw [World.cell?_alloc_at _ _ _ _ rfl]; rfl, fun j u hj => ?_⟩
    show (World.alloc _ _).cell? ((⟨b2, off2, none⟩ : Addr).add j) = some u
    rw [Addr.add_lit]
    exact pairs_cells (h2.alloc _) j u hj
set_option maxHeartbeats 2000000 in
theorem join_yes (a1 : Option Addr) (cap1 : Nat) (l1 : List (Int × Int)) (hl1 : l1.length ≤ 1048576) (a2 : Option Addr) (cap2 : Nat) (l2 : List (Int × Int)) (hl2 : l2.length ≤ 1048576) {w : World} (ha1 : PairsAt w a1 l1) (ha2 : PairsAt w a2 l2) (h1 : chOk l1 = true) (h2 : chOk l2 = true) :
    Calls Try.prog 25 #[.slice a1 l1.length cap1, .slice a2 l2.length cap2] w fun e w' => ∃ v, e = .returned (.tuple #[v, .bool (chOk (l1 ++ l2))]) ∧ OwnPairs 27 w' w.heap.size v (chIf (l1 ++ l2)) ∧ Below w.heap.size w w' := by
  have h1s := fun (W : World) (hb : Below w.heap.size w W) => isChart_any a1 cap1 l1 hl1 (ha1.below hb)
  have h2s := fun (W : World) (hb : Below w.heap.size w W) => isChart_any a2 cap2 l2 hl2 (ha2.below hb)
  rw [h1] at h1s
  rw [h2] at h2s
  obtain ⟨c1, c2, c3, c4⟩ := chOk_parts h1
  obtain ⟨d1, d2, d3, d4⟩ := chOk_parts h2
  obtain ⟨b1, off1, rfl⟩ := ha1.some_of c3
  obtain ⟨b2, off2, rfl⟩ := ha2.some_of d3
  have HS1 := Lib.hid h1s
  have HS2 := Lib.hid h2s
  have hln : (l1 ++ l2).length ≤ 1048576 := by rw [List.length_append]; omega
  have hcat : catXSpot [(⟨b1, off1, none⟩, cap1, l1), (⟨b2, off2, none⟩, cap2, l2)] 2 = l1 ++ l2 := by simp [catXSpot]
  have HCA := Lib.hid (fun (gs : Nat) (W : World) (hs : SlAtSpot W gs [(⟨b1, off1, none⟩, cap1, l1), (⟨b2, off2, none⟩, cap2, l2)]) => concat_anySpot gs 2 2 [(⟨b1, off1, none⟩, cap1, l1), (⟨b2, off2, none⟩, cap2, l2)] rfl (by omega) (by rw [hcat, List.length_append]; omega) (by rw [hcat]; exact hln) hs)
  rw [hcat] at HCA
  have HFO := Lib.hid (fun W b v ho => formOf (w := W) (base := b) (v := v) hln ho)
  have HSL := Lib.hid (fun (W : World) (hb : Below w.heap.size w W) => slat_two (cap1 := cap1) (cap2 := cap2) (ha1.below hb) (ha2.below hb))
  clear h1 h2 h1s h2s c1 c2 d1 d2 ha1 ha2 hcat hln
  go_enter Try.func25, Try.ntmps25
  go_wp2_with (first | (go_at_call 54; ((with_reducible refine (HS1.out _ (by repeat (first | exact Below.refl _ _ | assumption | refine Below.drew ?_ | refine below_drewN ?_ _ | refine Below.alloc ?_ (by first | omega | (simp; done) | (simp; omega)) _ | refine Below.setCell ?_ (by first | omega | (simp; done) | (simp; omega)) _ | refine Below.trans ?_ (Below.mono (by assumption) (by first | omega | (simp; done) | (simp; omega)))))).mono ?_); rintro e w1 ⟨rfl, hb1⟩; have hs1 := hb1.size)) | (go_at_call 54; ((with_reducible refine (HS2.out _ (by repeat (first | exact Below.refl _ _ | assumption | refine Below.drew ?_ | refine below_drewN ?_ _ | refine Below.alloc ?_ (by first | omega | (simp; done) | (simp; omega)) _ | refine Below.setCell ?_ (by first | omega | (simp; done) | (simp; omega)) _ | refine Below.trans ?_ (Below.mono (by assumption) (by first | omega | (simp; done) | (simp; omega)))))).mono ?_); rintro e w2 ⟨rfl, hb2⟩; have hs2 := hb2.size)) | (go_at_call 55; (refine (HCA.out _ _ (HSL.out _ (by repeat (first | exact Below.refl _ _ | assumption | refine Below.drew ?_ | refine below_drewN ?_ _ | refine Below.alloc ?_ (by first | omega | (simp; done) | (simp; omega)) _ | refine Below.setCell ?_ (by first | omega | (simp; done) | (simp; omega)) _ | refine Below.trans ?_ (Below.mono (by assumption) (by first | omega | (simp; done) | (simp; omega))))))).mono ?_; rintro e w3 ⟨v3, rfl, ho3, hb3⟩; have HO3 := Lib.hid ho3; clear ho3; have hs3 := hb3.size; (try simp at hs3))) | (go_at_call 44; (refine (HFO.out _ _ _ HO3.out).mono ?_; rintro e w4 ⟨v4, rfl, ho4, hb4⟩; have hs4 := hb4.size)))
  go_ret2
  exact ⟨_, rfl, own_mono ho4 (by first | omega | (simp; done) | (simp; omega)), (by repeat (first | exact Below.refl _ _ | assumption | refine Below.drew ?_ | refine below_drewN ?_ _ | refine Below.alloc ?_ (by first | omega | (simp; done) | (simp; omega)) _ | refine Below.setCell ?_ (by first | omega | (simp; done) | (simp; omega)) _ | refine Below.trans ?_ (Below.mono (by assumption) (by first | omega | (simp; done) | (simp; omega)))))⟩

set_option maxHeartbeats 2000000 in
theorem specJoin_yes (a1 : Option Addr) (cap1 : Nat) (l1 : List (Int × Int)) (hl1 : l1.length ≤ 1048576) (hc1 : l1.length ≤ cap1) (a2 : Option Addr) (cap2 : Nat) (l2 : List (Int × Int)) (hl2 : l2.length ≤ 1048576) (hc2 : l2.length ≤ cap2) {w : World} (ha1 : PairsAt w a1 l1) (ha2 : PairsAt w a2 l2) (h1 : chOk l1 = true) (h2 : chOk l2 = true) :
    Calls Try.prog 24 #[.slice a1 l1.length cap1, .slice a2 l2.length cap2] w fun e w' => ∃ v, e = .returned (.tuple #[v, .bool (chOk (l1 ++ l2))]) ∧ OwnPairs 27 w' w.heap.size v (chIf (l1 ++ l2)) ∧ Below w.heap.size w w' := by
  obtain ⟨j0, hi, hz0, hz1, hz2⟩ := info_parts Try.infoSpot
  have HI := Lib.hid hi
  have HZ0 := Lib.hid hz0
  have HZ1 := Lib.hid hz1
  have HZ2 := Lib.hid hz2
  clear hi hz0 hz1 hz2
  have h1s := fun (W : World) (hb : Below w.heap.size w W) => chGood_any a1 cap1 l1 hl1 hc1 (ha1.below hb)
  have h2s := fun (W : World) (hb : Below w.heap.size w W) => chGood_any a2 cap2 l2 hl2 hc2 (ha2.below hb)
  rw [h1] at h1s
  rw [h2] at h2s
  obtain ⟨c1, c2, c3, c4⟩ := chOk_parts h1
  obtain ⟨d1, d2, d3, d4⟩ := chOk_parts h2
  obtain ⟨b1, off1, rfl⟩ := ha1.some_of c3
  obtain ⟨b2, off2, rfl⟩ := ha2.some_of d3
  have HS1 := Lib.hid h1s
  have HS2 := Lib.hid h2s
  have hln : (l1 ++ l2).length ≤ 1048576 := by rw [List.length_append]; omega
  have HOW := Lib.hid (fun (W : World) (hb : Below w.heap.size w W) => chOwn_any (some ⟨b1, off1, none⟩) cap1 l1 c3 hl1 (ha1.below hb))
  have HFO := Lib.hid (fun W b v ho => chIfS (w := W) (base := b) (v := v) hln ho)
  have HA2 := Lib.hid (fun (W : World) (hb : Below w.heap.size w W) => ha2.below hb)
  have hsm : l1.length + l2.length ≤ 24 := by omega
  clear h1 h2 h1s h2s c1 c2 d1 d2 ha1 ha2 hln
  go_enter Try.func24, Try.ntmps24
  go_wp2_with (first | (go_at_call 52; ((with_reducible refine (HS1.out _ (by repeat (first | exact Below.refl _ _ | assumption | refine Below.drew ?_ | refine below_drewN ?_ _ | refine Below.alloc ?_ (by first | omega | (simp; done) | (simp; omega)) _ | refine Below.setCell ?_ (by first | omega | (simp; done) | (simp; omega)) _ | refine Below.trans ?_ (Below.mono (by assumption) (by first | omega | (simp; done) | (simp; omega)))))).mono ?_); rintro e w1 ⟨rfl, hb1⟩; have hs1 := hb1.size)) | (go_at_call 52; ((with_reducible refine (HS2.out _ (by repeat (first | exact Below.refl _ _ | assumption | refine Below.drew ?_ | refine below_drewN ?_ _ | refine Below.alloc ?_ (by first | omega | (simp; done) | (simp; omega)) _ | refine Below.setCell ?_ (by first | omega | (simp; done) | (simp; omega)) _ | refine Below.trans ?_ (Below.mono (by assumption) (by first | omega | (simp; done) | (simp; omega)))))).mono ?_); rintro e w2 ⟨rfl, hb2⟩; have hs2 := hb2.size)) | (go_at_call 53; (refine (HOW.out _ (by repeat (first | exact Below.refl _ _ | assumption | refine Below.drew ?_ | refine below_drewN ?_ _ | refine Below.alloc ?_ (by first | omega | (simp; done) | (simp; omega)) _ | refine Below.setCell ?_ (by first | omega | (simp; done) | (simp; omega)) _ | refine Below.trans ?_ (Below.mono (by assumption) (by first | omega | (simp; done) | (simp; omega)))))).mono ?_; rintro e w3 ⟨v3, rfl, ho3, hb3⟩; have HO3 := Lib.hid ho3; clear ho3; have hs3 := hb3.size; have hbw3 : Below w.heap.size w w3 := (by repeat (first | exact Below.refl _ _ | assumption | refine Below.drew ?_ | refine below_drewN ?_ _ | refine Below.alloc ?_ (by first | omega | (simp; done) | (simp; omega)) _ | refine Below.setCell ?_ (by first | omega | (simp; done) | (simp; omega)) _ | refine Below.trans ?_ (Below.mono (by assumption) (by first | omega | (simp; done) | (simp; omega))))))) | (at_builtin; refine wpList_append_lies _ rfl _ _ 24 rfl (w2.heap.size) 27 j0 (.agg #[.int .i64 0, .int .i64 0]) 2 16 Try.underlying24 HI.out HZ0.out HZ1.out HZ2.out rfl (by omega) v3 l1.length (pairV l1) rfl HO3.out ⟨b2, off2, none⟩ l2.length cap2 (pairV l2) rfl (pairV_length l2) (by intro j u hj; rw [Addr.add_lit]; exact pairs_cells (HA2.out _ hbw3) j u hj) (pairV_one l2) (by omega) (by unfold maxLen; omega) (by omega) (by omega) _ rfl ?_; intro gg cap5 w5 hown5 hgrow5 hat5 hlt5))
  have hol := World.ownsRow.lt HO3.out
  have hown6 : OwnPairs 27 w5 w2.heap.size (.slice (some ⟨gg, 0, none⟩) (l1.length + l2.length) cap5) (l1 ++ l2) := by rw [OwnPairs, pairV_append, List.length_append]; exact hown5
  have HO6 := Lib.hid hown6
  have hb5 : Below w.heap.size w w5 := Below.grown hbw3 hgrow5 hbw3.size (fun q hq => by have := hol q hq; omega)
  have hs6 := hgrow5.size
  clear hown5 hgrow5 hat5 hown6 hol
  go_wp2_with (go_at_call 41; (refine (HFO.out _ _ _ HO6.out).mono ?_; rintro e w4 ⟨v4, rfl, ho4, hb4⟩; have hs4 := hb4.size))
  go_ret2
  exact ⟨_, rfl, own_mono ho4 (by omega), (by repeat (first | exact Below.refl _ _ | assumption | refine Below.drew ?_ | refine below_drewN ?_ _ | refine Below.alloc ?_ (by first | omega | (simp; done) | (simp; omega)) _ | refine Below.setCell ?_ (by first | omega | (simp; done) | (simp; omega)) _ | refine Below.trans ?_ (Below.mono (by assumption) (by first | omega | (simp; done) | (simp; omega)))))⟩

theorem specJoin_any (a1 : Option Addr) (cap1 : Nat) (l1 : List (Int × Int)) (hl1 : l1.length ≤ 1048576) (hc1 : l1.length ≤ cap1) (a2 : Option Addr) (cap2 : Nat) (l2 : List (Int × Int)) (hl2 : l2.length ≤ 1048576) (hc2 : l2.length ≤ cap2) {w : World} (ha1 : PairsAt w a1 l1) (ha2 : PairsAt w a2 l2) :
    Calls Try.prog 24 #[.slice a1 l1.length cap1, .slice a2 l2.length cap2] w fun e w' => ∃ v, e = .returned (.tuple #[v, .bool (joinO l1 l2 && chOk (joinL l1 l2))]) ∧ OwnPairs 27 w' w.heap.size v (chIf (joinL l1 l2)) ∧ Below w.heap.size w w' := by
  cases hk : joinO l1 l2
  · have e : joinL l1 l2 = [] := by unfold joinL; rw [hk]; rfl
    rw [e, chIf_no (show chOk [] = false from rfl)]
    exact (specJoin_no a1 cap1 l1 hl1 hc1 a2 cap2 l2 hl2 hc2 ha1 ha2 hk).mono fun e w' ⟨he, hb⟩ => ⟨_, he, own_nil _ _ _, hb⟩
  · have e : joinL l1 l2 = l1 ++ l2 := by unfold joinL; rw [if_pos hk]
    rw [e]
    unfold joinO at hk
    rw [Bool.and_eq_true] at hk
    exact specJoin_yes a1 cap1 l1 hl1 hc1 a2 cap2 l2 hl2 hc2 ha1 ha2 hk.1 hk.2

theorem join_any (a1 : Option Addr) (cap1 : Nat) (l1 : List (Int × Int)) (hl1 : l1.length ≤ 1048576) (a2 : Option Addr) (cap2 : Nat) (l2 : List (Int × Int)) (hl2 : l2.length ≤ 1048576) {w : World} (ha1 : PairsAt w a1 l1) (ha2 : PairsAt w a2 l2) :
    Calls Try.prog 25 #[.slice a1 l1.length cap1, .slice a2 l2.length cap2] w fun e w' => ∃ v, e = .returned (.tuple #[v, .bool (joinO l1 l2 && chOk (joinL l1 l2))]) ∧ OwnPairs 27 w' w.heap.size v (chIf (joinL l1 l2)) ∧ Below w.heap.size w w' := by
  cases hk : joinO l1 l2
  · have e : joinL l1 l2 = [] := by unfold joinL; rw [hk]; rfl
    rw [e, chIf_no (show chOk [] = false from rfl)]
    exact (join_no a1 cap1 l1 hl1 a2 cap2 l2 hl2 ha1 ha2 hk).mono fun e w' ⟨he, hb⟩ => ⟨_, he, own_nil _ _ _, hb⟩
  · have e : joinL l1 l2 = l1 ++ l2 := by unfold joinL; rw [if_pos hk]
    rw [e]
    unfold joinO at hk
    rw [Bool.and_eq_true] at hk
    exact join_yes a1 cap1 l1 hl1 a2 cap2 l2 hl2 ha1 ha2 hk.1 hk.2

end Go.Proofs.Ytjpkbgijphkibaa
