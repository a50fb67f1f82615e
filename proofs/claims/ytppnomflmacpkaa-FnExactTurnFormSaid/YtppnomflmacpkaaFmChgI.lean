/- Changed forms, the program's side. No conditions but those written in each theorem. -/
import Derived.Test.YtppnomflmacpkaaFmChg
import Derived.Test.YtppnomflmacpkaaFmWay
import Derived.Deep.RegionHeld3
import Derived.Deep.DrawnRows
import Derived.IntWalk
import Derived.Laws.AppendOwn
import Derived.Deep.AppendLies
namespace Go.Proofs.Ytppnomflmacpkaa
open Go.RowKit


attribute [local go_sem ↓] Go.wp_at_zero Go.wp_at_succ

set_option maxHeartbeats 1000000 in
theorem chgS_no (a : Option Addr) (cap : Nat) (l : List (Int × Int)) (hl : l.length ≤ 1048576) {w : World} (ha : PairsAt w a l) (p : Int) (P : Nat) (hv : chOk l = false) :
    Calls Try.prog 56 #[.slice a l.length cap, .func (Fn.func 57) #[] #[.pointer (some ⟨P, 0, none⟩)]] w fun e w' => e = .returned (.tuple #[.slice none 0 0, .bool false]) ∧ Below w.heap.size w w' := by
  have hm := fun (W : World) (hb : Below w.heap.size w W) => mid_any a cap l hl (ha.below hb)
  rw [hv] at hm
  have HM := Lib.hid hm
  clear hv hm
  go_enter Try.func56, Try.ntmps56
  go_wp2_with (first | (go_at_call 26; (refine (HM.out _ (by repeat (first | exact Below.refl _ _ | assumption | refine Below.drew ?_ | refine below_drewN ?_ _ | refine Below.alloc ?_ (by first | omega | (simp; done) | (simp; omega)) _ | refine Below.setCell ?_ (by first | omega | (simp; done) | (simp; omega)) _ | refine Below.trans ?_ (Below.mono (by assumption) (by first | omega | (simp; done) | (simp; omega)))))).mono ?_; rintro e w1 ⟨rfl, hb1⟩; have hs1 := hb1.size)))
  go_ret2
  exact ⟨rfl, (by repeat (first | exact Below.refl _ _ | assumption | refine Below.drew ?_ | refine below_drewN ?_ _ | refine Below.alloc ?_ (by first | omega | (simp; done) | (simp; omega)) _ | refine Below.setCell ?_ (by first | omega | (simp; done) | (simp; omega)) _ | refine Below.trans ?_ (Below.mono (by assumption) (by first | omega | (simp; done) | (simp; omega)))))⟩

set_option maxHeartbeats 4000000 in
theorem chgS_yes (a : Option Addr) (cap : Nat) (l : List (Int × Int)) (hl : l.length ≤ 1048576) {w : World} (ha : PairsAt w a l) (p : Int) (P : Nat) (p0 : 1 ≤ p) (p1 : p ≤ 400) (hc : w.cell? ⟨P, 0, none⟩ = some (.int .i64 p)) (hv : chOk l = true) :
    Calls Try.prog 56 #[.slice a l.length cap, .func (Fn.func 57) #[] #[.pointer (some ⟨P, 0, none⟩)]] w fun e w' => ∃ v, e = .returned (.tuple #[v, .bool (chOk (chgTo (sprG p) l l.length))]) ∧ OwnPairs 24 w' w.heap.size v (chIf (chgTo (sprG p) l l.length)) ∧ Below w.heap.size w w' := by
  obtain ⟨j0, hi, hz0, hz1, hz2⟩ := info_parts Try.infoSpot
  have HI := Lib.hid hi
  have HZ0 := Lib.hid hz0
  have HZ1 := Lib.hid hz1
  have HZ2 := Lib.hid hz2
  clear hi hz0 hz1 hz2
  have hm := fun (W : World) (hb : Below w.heap.size w W) => mid_any a cap l hl (ha.below hb)
  rw [hv] at hm
  simp only [show ∀ n : Int, guardI true n = n from fun _ => rfl] at hm
  have HM := Lib.hid hm
  obtain ⟨c1, c2, c3, c4⟩ := chOk_parts hv
  obtain ⟨⟨m1, m2⟩, m3, m4⟩ := mid_bound c1 c3
  have hPl := World.block_lt_of_cell? _ _ hc
  have hPl2 : P < w.heap.size := hPl
  have hln : (chgTo (sprG p) l l.length).length ≤ 1048576 := by rw [chgTo_length]; exact hl
  have HFO := Lib.hid (fun W b v ho => formOf (w := W) (base := b) (v := v) hln ho)
  have HA := Lib.hid ha
  have HON := Lib.hid c1
  have HG := Lib.hid (fun k => show chgTo (sprG p) l (k + 1) = chgTo (sprG p) l k ++ [(midX l + ((sprG p) (sx l k - midX l) (sy l k - midY l)).1, midY l + ((sprG p) (sx l k - midX l) (sy l k - midY l)).2)] from rfl)
  have HGL := Lib.hid (fun k => chgTo_length (sprG p) l k)
  obtain ⟨G, hG⟩ : ∃ G, G = chgTo (sprG p) l := ⟨_, rfl⟩
  have h0 : G 0 = [] := by rw [hG]; rfl
  rw [← hG] at HFO HG HGL ⊢
  obtain ⟨mx, hmx⟩ : ∃ m, m = midX l := ⟨_, rfl⟩
  obtain ⟨my, hmy⟩ : ∃ m, m = midY l := ⟨_, rfl⟩
  rw [← hmx] at HG HM m1 m2
  rw [← hmy] at HG HM m3 m4
  have H0 := Lib.hid h0
  clear hv hm ha c1 hln hG hmx hmy h0
  go_enter Try.func56, Try.ntmps56
  go_wp2_with (first | (go_at_call 26; (refine (HM.out _ (by repeat (first | exact Below.refl _ _ | assumption | refine Below.drew ?_ | refine below_drewN ?_ _ | refine Below.alloc ?_ (by first | omega | (simp; done) | (simp; omega)) _ | refine Below.setCell ?_ (by first | omega | (simp; done) | (simp; omega)) _ | refine Below.trans ?_ (Below.mono (by assumption) (by first | omega | (simp; done) | (simp; omega)))))).mono ?_; rintro e w1 ⟨rfl, hb1⟩; have hs1 := hb1.size)))
  have hbw : Below w.heap.size w w1 := (by repeat (first | exact Below.refl _ _ | assumption | refine Below.drew ?_ | refine below_drewN ?_ _ | refine Below.alloc ?_ (by first | omega | (simp; done) | (simp; omega)) _ | refine Below.setCell ?_ (by first | omega | (simp; done) | (simp; omega)) _ | refine Below.trans ?_ (Below.mono (by assumption) (by first | omega | (simp; done) | (simp; omega)))))
  have hp1 : w1.cell? ⟨P, 0, none⟩ = some (.int .i64 p) := (hb1.cell (p := ⟨P, 0, none⟩) hPl2).trans hc
  clear hb1 hc hPl
  go_loopw [8, 22] (fun ov i wr => ∃ (k : Nat) (vo : Value), k ≤ l.length ∧ i = .int .i64 k ∧ ov = vo ∧ Hid (OwnPairs 24 wr (w1.heap.size + 1) vo (G k)) ∧ wr.cell? ⟨w1.heap.size, 0, none⟩ = some (.int .i64 mx) ∧ wr.cell? ⟨w1.heap.size, 1, none⟩ = some (.int .i64 my) ∧ wr.cell? ⟨P, 0, none⟩ = some (.int .i64 p) ∧ Below w.heap.size w wr ∧ w1.heap.size + 1 ≤ wr.heap.size) (fun _ i _ => l.length - (intOf i).toNat)
  case atStart => exact ⟨0, _, Nat.zero_le _, rfl, rfl, Lib.hid (by rw [H0.out]; exact own_nil _ _ _), by go_simp, by go_simp, ((World.cell?_alloc_past _ _ _ (by omega)).trans hp1), (by repeat (first | exact Below.refl _ _ | assumption | refine Below.drew ?_ | refine below_drewN ?_ _ | refine Below.alloc ?_ (by first | omega | (simp; done) | (simp; omega)) _ | refine Below.setCell ?_ (by first | omega | (simp; done) | (simp; omega)) _ | refine Below.trans ?_ (Below.mono (by assumption) (by first | omega | (simp; done) | (simp; omega))))), (by first | omega | (simp; done) | (simp; omega))⟩
  case round =>
    clear hp1 hbw
    obtain ⟨k, vo, hk, rfl, hv, HOWN, d0, d1, hp, hbr, hws⟩ := hrel
    replace hv := hv.symm
    subst hv
    have hsr := hbr.size
    by_cases hlt : k < l.length
    · obtain ⟨b, off, rfl, e0, e1⟩ := (HA.out.below hbr) k hlt
      obtain ⟨⟨o1, o2⟩, o3, o4⟩ := onField_iff.1 (allOn_at HON.out k hlt)
      have hst := HG.out k
      have hal := HGL.out k
      obtain ⟨acc, hacc⟩ : ∃ acc, acc = G k := ⟨_, rfl⟩
      rw [← hacc] at HOWN hst hal
      have hal9 : acc.length ≤ 12 := by omega
      obtain ⟨X, hX⟩ : ∃ X, X = sx l k := ⟨_, rfl⟩
      obtain ⟨Y, hY⟩ : ∃ Y, Y = sy l k := ⟨_, rfl⟩
      rw [← hX] at e0 o1 o2 hst
      rw [← hY] at e1 o3 o4 hst
      have hgb : (-600000 ≤ ((sprG p) (X - mx) (Y - my)).1 ∧ ((sprG p) (X - mx) (Y - my)).1 ≤ 600000) ∧ (-600000 ≤ ((sprG p) (X - mx) (Y - my)).2 ∧ ((sprG p) (X - mx) (Y - my)).2 ≤ 600000) := by 
        have h1 := (spr_bound (x := X - mx) (p := p) (by omega) (by omega) p0 p1).2
        have h2 := (spr_bound (x := Y - my) (p := p) (by omega) (by omega) p0 p1).2
        unfold sprG
        simp only
        omega
      have HK := Lib.hid (fun (W : World) (hh : W.cell? ⟨P, 0, none⟩ = some (.int .i64 p)) => sprC_any (X - mx) (Y - my) p P (by omega) (by omega) (by omega) (by omega) p0 p1 (w := W) hh)
      obtain ⟨dx, hdx⟩ : ∃ d, d = ((sprG p) (X - mx) (Y - my)).1 := ⟨_, rfl⟩
      obtain ⟨dy, hdy⟩ : ∃ d, d = ((sprG p) (X - mx) (Y - my)).2 := ⟨_, rfl⟩
      rw [← hdx, ← hdy] at hgb hst HK
      obtain ⟨⟨g1, g2⟩, g3, g4⟩ := hgb
      have HST := Lib.hid hst
      have HOL := Lib.hid (World.ownsRow.lt HOWN.out)
      have HOWN2 := Lib.hid (fun (W : World) (hb : Below wr.heap.size wr W) => own_below HOWN.out hb)
      have v1 : IntKind.i64.wrap (X - mx) = X - mx := IntWalk.i64_in _ (by omega)
      have v2 : IntKind.i64.wrap (Y - my) = Y - my := IntWalk.i64_in _ (by omega)
      have v3 : IntKind.i64.wrap (mx + dx) = mx + dx := IntWalk.i64_in _ (by omega)
      have v4 : IntKind.i64.wrap (my + dy) = my + dy := IntWalk.i64_in _ (by omega)
      clear hacc hst hal hX hY hdx hdy
      have n5 : ¬ wr.heap.size = w1.heap.size := by omega
      have n6 : ¬ w1.heap.size = wr.heap.size := by omega
      have n7 : P < wr.heap.size := by omega
      have n8 : w1.heap.size < wr.heap.size := by omega
      go_wp2_with (first | (go_at_call 57; (refine (HK.out _ ((World.cell?_alloc_past _ _ _ n7).trans hp)).mono ?_; rintro e w3 ⟨rfl, hb3⟩; have hs3 := hb3.size; (try simp at hs3); have q0 : w3.cell? ⟨w1.heap.size, 0, none⟩ = some (.int .i64 mx) := (hb3.cell (p := ⟨w1.heap.size, 0, none⟩) (by first | omega | (simp; done) | (simp; omega))).trans ((World.cell?_alloc_past _ _ _ n8).trans d0); have q1 : w3.cell? ⟨w1.heap.size, 1, none⟩ = some (.int .i64 my) := (hb3.cell (p := ⟨w1.heap.size, 1, none⟩) (by first | omega | (simp; done) | (simp; omega))).trans ((World.cell?_alloc_past _ _ _ n8).trans d1); have q2 : w3.cell? ⟨P, 0, none⟩ = some (.int .i64 p) := (hb3.cell (p := ⟨P, 0, none⟩) (by first | omega | (simp; done) | (simp; omega))).trans ((World.cell?_alloc_past _ _ _ n7).trans hp); have hbr3 : Below wr.heap.size wr w3 := (by repeat (first | exact Below.refl _ _ | assumption | refine Below.drew ?_ | refine below_drewN ?_ _ | refine Below.alloc ?_ (by first | omega | (simp; done) | (simp; omega)) _ | refine Below.setCell ?_ (by first | omega | (simp; done) | (simp; omega)) _ | refine Below.trans ?_ (Below.mono (by assumption) (by first | omega | (simp; done) | (simp; omega))))); have hb33 : Below w.heap.size w w3 := Below.trans hbr (Below.mono hbr3 hsr))) | (at_builtin; refine wpList_append_lies _ rfl _ _ 32 rfl (w1.heap.size + 1) 24 j0 (.agg #[.int .i64 0, .int .i64 0]) 2 16 Try.underlying32 HI.out HZ0.out HZ1.out HZ2.out rfl (by omega) vo (acc.length) (pairV acc) rfl (HOWN2.out _ (Below.alloc hbr3 hbr3.size _)) ⟨_, 0, none⟩ 1 1 [.int .i64 (mx + dx), .int .i64 (my + dy)] rfl rfl (World.news_of_block (cs := #[.int .i64 (mx + dx), .int .i64 (my + dy)]) (t := 24) (fr := (0, 0)) (heap_alloc_new _ _)) (by simp [Value.oneCell']) (by omega) (by unfold maxLen; omega) (by omega) (by simp; omega) _ rfl ?_; intro gg cap5 w5 hown5 hgrow5 hat5 hlt5))
      have hne : ∀ b, b ≤ w1.heap.size → some b ≠ vo.ownBlock := fun b hb e => by have := HOL.out b e.symm; omega
      have f0 : w5.cell? ⟨w1.heap.size, 0, none⟩ = some (.int .i64 mx) := (hgrow5.cell_far ⟨w1.heap.size, 0, none⟩ (by first | omega | (simp; done) | (simp; omega)) (hne _ (Nat.le_refl _))).trans ((World.cell?_alloc_past _ _ _ (by omega)).trans q0)
      have f1 : w5.cell? ⟨w1.heap.size, 1, none⟩ = some (.int .i64 my) := (hgrow5.cell_far ⟨w1.heap.size, 1, none⟩ (by first | omega | (simp; done) | (simp; omega)) (hne _ (Nat.le_refl _))).trans ((World.cell?_alloc_past _ _ _ (by omega)).trans q1)
      have f2 : w5.cell? ⟨P, 0, none⟩ = some (.int .i64 p) := (hgrow5.cell_far ⟨P, 0, none⟩ (show P < _ by first | omega | (simp; done) | (simp; omega)) (hne P (by omega))).trans ((World.cell?_alloc_past _ _ _ (by omega)).trans q2)
      have hb5 : Below w.heap.size w w5 := Below.grown (Below.alloc hb33 hb33.size _) hgrow5 (by first | (simp; omega) | omega) (fun q hq => by have := HOL.out q hq; omega)
      have hown6 : OwnPairs 24 w5 (w1.heap.size + 1) (.slice (some ⟨gg, 0, none⟩) (acc.length + 1) cap5) (G (k + 1)) := by rw [HST.out, OwnPairs, pairV_append, List.length_append]; simpa [pairV] using hown5
      have HO6 := Lib.hid hown6
      have hs6 := hgrow5.size
      (try simp at hs6)
      clear hat5 hgrow5 hown5 hown6 hne q0 q1 q2
      have hs5 := hb5.size
      go_wp2
      go_roundw
      case rel => exact ⟨k + 1, _, by omega, by go_num, rfl, HO6, f0, f1, f2, hb5, by omega⟩
      case measure => simp [intOf]; omega
    · obtain rfl : k = l.length := by omega
      have HOB := Lib.hid (fun (W : World) (hb : Below wr.heap.size wr W) => own_below HOWN.out hb)
      go_wp2_with (go_at_call 47; (refine (HFO.out _ _ _ (HOB.out _ (by repeat (first | exact Below.refl _ _ | assumption | refine Below.drew ?_ | refine below_drewN ?_ _ | refine Below.alloc ?_ (by first | omega | (simp; done) | (simp; omega)) _ | refine Below.setCell ?_ (by first | omega | (simp; done) | (simp; omega)) _ | refine Below.trans ?_ (Below.mono (by assumption) (by first | omega | (simp; done) | (simp; omega))))))).mono ?_; rintro e w4 ⟨v4, rfl, ho4, hb4⟩; have hs4 := hb4.size))
      go_ret2
      exact ⟨_, rfl, own_mono ho4 (by omega), (by repeat (first | exact Below.refl _ _ | assumption | refine Below.drew ?_ | refine below_drewN ?_ _ | refine Below.alloc ?_ (by first | omega | (simp; done) | (simp; omega)) _ | refine Below.setCell ?_ (by first | omega | (simp; done) | (simp; omega)) _ | refine Below.trans ?_ (Below.mono (by assumption) (by first | omega | (simp; done) | (simp; omega)))))⟩

set_option maxHeartbeats 1000000 in
theorem chgT_no (a : Option Addr) (cap : Nat) (l : List (Int × Int)) (hl : l.length ≤ 1048576) {w : World} (ha : PairsAt w a l) (q : Nat) (P : Nat) (hv : chOk l = false) :
    Calls Try.prog 56 #[.slice a l.length cap, .func (Fn.func 58) #[] #[.pointer (some ⟨P, 0, none⟩)]] w fun e w' => e = .returned (.tuple #[.slice none 0 0, .bool false]) ∧ Below w.heap.size w w' := by
  have hm := fun (W : World) (hb : Below w.heap.size w W) => mid_any a cap l hl (ha.below hb)
  rw [hv] at hm
  have HM := Lib.hid hm
  clear hv hm
  go_enter Try.func56, Try.ntmps56
  go_wp2_with (first | (go_at_call 26; (refine (HM.out _ (by repeat (first | exact Below.refl _ _ | assumption | refine Below.drew ?_ | refine below_drewN ?_ _ | refine Below.alloc ?_ (by first | omega | (simp; done) | (simp; omega)) _ | refine Below.setCell ?_ (by first | omega | (simp; done) | (simp; omega)) _ | refine Below.trans ?_ (Below.mono (by assumption) (by first | omega | (simp; done) | (simp; omega)))))).mono ?_; rintro e w1 ⟨rfl, hb1⟩; have hs1 := hb1.size)))
  go_ret2
  exact ⟨rfl, (by repeat (first | exact Below.refl _ _ | assumption | refine Below.drew ?_ | refine below_drewN ?_ _ | refine Below.alloc ?_ (by first | omega | (simp; done) | (simp; omega)) _ | refine Below.setCell ?_ (by first | omega | (simp; done) | (simp; omega)) _ | refine Below.trans ?_ (Below.mono (by assumption) (by first | omega | (simp; done) | (simp; omega)))))⟩

set_option maxHeartbeats 4000000 in
theorem chgT_yes (a : Option Addr) (cap : Nat) (l : List (Int × Int)) (hl : l.length ≤ 1048576) {w : World} (ha : PairsAt w a l) (q : Nat) (P : Nat) (p1 : q ≤ 3) (hc : w.cell? ⟨P, 0, none⟩ = some (.int .i64 q)) (hv : chOk l = true) :
    Calls Try.prog 56 #[.slice a l.length cap, .func (Fn.func 58) #[] #[.pointer (some ⟨P, 0, none⟩)]] w fun e w' => ∃ v, e = .returned (.tuple #[v, .bool (chOk (chgTo (rotG q) l l.length))]) ∧ OwnPairs 24 w' w.heap.size v (chIf (chgTo (rotG q) l l.length)) ∧ Below w.heap.size w w' := by
  obtain ⟨j0, hi, hz0, hz1, hz2⟩ := info_parts Try.infoSpot
  have HI := Lib.hid hi
  have HZ0 := Lib.hid hz0
  have HZ1 := Lib.hid hz1
  have HZ2 := Lib.hid hz2
  clear hi hz0 hz1 hz2
  have hm := fun (W : World) (hb : Below w.heap.size w W) => mid_any a cap l hl (ha.below hb)
  rw [hv] at hm
  simp only [show ∀ n : Int, guardI true n = n from fun _ => rfl] at hm
  have HM := Lib.hid hm
  obtain ⟨c1, c2, c3, c4⟩ := chOk_parts hv
  obtain ⟨⟨m1, m2⟩, m3, m4⟩ := mid_bound c1 c3
  have hPl := World.block_lt_of_cell? _ _ hc
  have hPl2 : P < w.heap.size := hPl
  have hln : (chgTo (rotG q) l l.length).length ≤ 1048576 := by rw [chgTo_length]; exact hl
  have HFO := Lib.hid (fun W b v ho => formOf (w := W) (base := b) (v := v) hln ho)
  have HA := Lib.hid ha
  have HON := Lib.hid c1
  have HG := Lib.hid (fun k => show chgTo (rotG q) l (k + 1) = chgTo (rotG q) l k ++ [(midX l + ((rotG q) (sx l k - midX l) (sy l k - midY l)).1, midY l + ((rotG q) (sx l k - midX l) (sy l k - midY l)).2)] from rfl)
  have HGL := Lib.hid (fun k => chgTo_length (rotG q) l k)
  obtain ⟨G, hG⟩ : ∃ G, G = chgTo (rotG q) l := ⟨_, rfl⟩
  have h0 : G 0 = [] := by rw [hG]; rfl
  rw [← hG] at HFO HG HGL ⊢
  obtain ⟨mx, hmx⟩ : ∃ m, m = midX l := ⟨_, rfl⟩
  obtain ⟨my, hmy⟩ : ∃ m, m = midY l := ⟨_, rfl⟩
  rw [← hmx] at HG HM m1 m2
  rw [← hmy] at HG HM m3 m4
  have H0 := Lib.hid h0
  clear hv hm ha c1 hln hG hmx hmy h0
  go_enter Try.func56, Try.ntmps56
  go_wp2_with (first | (go_at_call 26; (refine (HM.out _ (by repeat (first | exact Below.refl _ _ | assumption | refine Below.drew ?_ | refine below_drewN ?_ _ | refine Below.alloc ?_ (by first | omega | (simp; done) | (simp; omega)) _ | refine Below.setCell ?_ (by first | omega | (simp; done) | (simp; omega)) _ | refine Below.trans ?_ (Below.mono (by assumption) (by first | omega | (simp; done) | (simp; omega)))))).mono ?_; rintro e w1 ⟨rfl, hb1⟩; have hs1 := hb1.size)))
  have hbw : Below w.heap.size w w1 := (by repeat (first | exact Below.refl _ _ | assumption | refine Below.drew ?_ | refine below_drewN ?_ _ | refine Below.alloc ?_ (by first | omega | (simp; done) | (simp; omega)) _ | refine Below.setCell ?_ (by first | omega | (simp; done) | (simp; omega)) _ | refine Below.trans ?_ (Below.mono (by assumption) (by first | omega | (simp; done) | (simp; omega)))))
  have hp1 : w1.cell? ⟨P, 0, none⟩ = some (.int .i64 q) := (hb1.cell (p := ⟨P, 0, none⟩) hPl2).trans hc
  clear hb1 hc hPl
  go_loopw [8, 22] (fun ov i wr => ∃ (k : Nat) (vo : Value), k ≤ l.length ∧ i = .int .i64 k ∧ ov = vo ∧ Hid (OwnPairs 24 wr (w1.heap.size + 1) vo (G k)) ∧ wr.cell? ⟨w1.heap.size, 0, none⟩ = some (.int .i64 mx) ∧ wr.cell? ⟨w1.heap.size, 1, none⟩ = some (.int .i64 my) ∧ wr.cell? ⟨P, 0, none⟩ = some (.int .i64 q) ∧ Below w.heap.size w wr ∧ w1.heap.size + 1 ≤ wr.heap.size) (fun _ i _ => l.length - (intOf i).toNat)
  case atStart => exact ⟨0, _, Nat.zero_le _, rfl, rfl, Lib.hid (by rw [H0.out]; exact own_nil _ _ _), by go_simp, by go_simp, ((World.cell?_alloc_past _ _ _ (by omega)).trans hp1), (by repeat (first | exact Below.refl _ _ | assumption | refine Below.drew ?_ | refine below_drewN ?_ _ | refine Below.alloc ?_ (by first | omega | (simp; done) | (simp; omega)) _ | refine Below.setCell ?_ (by first | omega | (simp; done) | (simp; omega)) _ | refine Below.trans ?_ (Below.mono (by assumption) (by first | omega | (simp; done) | (simp; omega))))), (by first | omega | (simp; done) | (simp; omega))⟩
  case round =>
    clear hp1 hbw
    obtain ⟨k, vo, hk, rfl, hv, HOWN, d0, d1, hp, hbr, hws⟩ := hrel
    replace hv := hv.symm
    subst hv
    have hsr := hbr.size
    by_cases hlt : k < l.length
    · obtain ⟨b, off, rfl, e0, e1⟩ := (HA.out.below hbr) k hlt
      obtain ⟨⟨o1, o2⟩, o3, o4⟩ := onField_iff.1 (allOn_at HON.out k hlt)
      have hst := HG.out k
      have hal := HGL.out k
      obtain ⟨acc, hacc⟩ : ∃ acc, acc = G k := ⟨_, rfl⟩
      rw [← hacc] at HOWN hst hal
      have hal9 : acc.length ≤ 12 := by omega
      obtain ⟨X, hX⟩ : ∃ X, X = sx l k := ⟨_, rfl⟩
      obtain ⟨Y, hY⟩ : ∃ Y, Y = sy l k := ⟨_, rfl⟩
      rw [← hX] at e0 o1 o2 hst
      rw [← hY] at e1 o3 o4 hst
      have hgb : (-600000 ≤ ((rotG q) (X - mx) (Y - my)).1 ∧ ((rotG q) (X - mx) (Y - my)).1 ≤ 600000) ∧ (-600000 ≤ ((rotG q) (X - mx) (Y - my)).2 ∧ ((rotG q) (X - mx) (Y - my)).2 ≤ 600000) := by 
        have h1 := rotG_bound (x := X - mx) (y := Y - my) (by omega) (by omega) (by omega) (by omega) q
        omega
      have HK := Lib.hid (fun (W : World) (hh : W.cell? ⟨P, 0, none⟩ = some (.int .i64 q)) => rotC_any (X - mx) (Y - my) q P (by omega) (by omega) (by omega) (by omega) p1 (w := W) hh)
      obtain ⟨dx, hdx⟩ : ∃ d, d = ((rotG q) (X - mx) (Y - my)).1 := ⟨_, rfl⟩
      obtain ⟨dy, hdy⟩ : ∃ d, d = ((rotG q) (X - mx) (Y - my)).2 := ⟨_, rfl⟩
      rw [← hdx, ← hdy] at hgb hst HK
      obtain ⟨⟨g1, g2⟩, g3, g4⟩ := hgb
      have HST := Lib.hid hst
      have HOL := Lib.hid (World.ownsRow.lt HOWN.out)
      have HOWN2 := Lib.hid (fun (W : World) (hb : Below wr.heap.size wr W) => own_below HOWN.out hb)
      have v1 : IntKind.i64.wrap (X - mx) = X - mx := IntWalk.i64_in _ (by omega)
      have v2 : IntKind.i64.wrap (Y - my) = Y - my := IntWalk.i64_in _ (by omega)
      have v3 : IntKind.i64.wrap (mx + dx) = mx + dx := IntWalk.i64_in _ (by omega)
      have v4 : IntKind.i64.wrap (my + dy) = my + dy := IntWalk.i64_in _ (by omega)
      clear hacc hst hal hX hY hdx hdy
      have n5 : ¬ wr.heap.size = w1.heap.size := by omega
      have n6 : ¬ w1.heap.size = wr.heap.size := by omega
      have n7 : P < wr.heap.size := by omega
      have n8 : w1.heap.size < wr.heap.size := by omega
      go_wp2_with (first | (go_at_call 58; (refine (HK.out _ ((World.cell?_alloc_past _ _ _ n7).trans hp)).mono ?_; rintro e w3 ⟨rfl, hb3⟩; have hs3 := hb3.size; (try simp at hs3); have q0 : w3.cell? ⟨w1.heap.size, 0, none⟩ = some (.int .i64 mx) := (hb3.cell (p := ⟨w1.heap.size, 0, none⟩) (by first | omega | (simp; done) | (simp; omega))).trans ((World.cell?_alloc_past _ _ _ n8).trans d0); have q1 : w3.cell? ⟨w1.heap.size, 1, none⟩ = some (.int .i64 my) := (hb3.cell (p := ⟨w1.heap.size, 1, none⟩) (by first | omega | (simp; done) | (simp; omega))).trans ((World.cell?_alloc_past _ _ _ n8).trans d1); have q2 : w3.cell? ⟨P, 0, none⟩ = some (.int .i64 q) := (hb3.cell (p := ⟨P, 0, none⟩) (by first | omega | (simp; done) | (simp; omega))).trans ((World.cell?_alloc_past _ _ _ n7).trans hp); have hbr3 : Below wr.heap.size wr w3 := (by repeat (first | exact Below.refl _ _ | assumption | refine Below.drew ?_ | refine below_drewN ?_ _ | refine Below.alloc ?_ (by first | omega | (simp; done) | (simp; omega)) _ | refine Below.setCell ?_ (by first | omega | (simp; done) | (simp; omega)) _ | refine Below.trans ?_ (Below.mono (by assumption) (by first | omega | (simp; done) | (simp; omega))))); have hb33 : Below w.heap.size w w3 := Below.trans hbr (Below.mono hbr3 hsr))) | (at_builtin; refine wpList_append_lies _ rfl _ _ 32 rfl (w1.heap.size + 1) 24 j0 (.agg #[.int .i64 0, .int .i64 0]) 2 16 Try.underlying32 HI.out HZ0.out HZ1.out HZ2.out rfl (by omega) vo (acc.length) (pairV acc) rfl (HOWN2.out _ (Below.alloc hbr3 hbr3.size _)) ⟨_, 0, none⟩ 1 1 [.int .i64 (mx + dx), .int .i64 (my + dy)] rfl rfl (World.news_of_block (cs := #[.int .i64 (mx + dx), .int .i64 (my + dy)]) (t := 24) (fr := (0, 0)) (heap_alloc_new _ _)) (by simp [Value.oneCell']) (by omega) (by unfold maxLen; omega) (by omega) (by simp; omega) _ rfl ?_; intro gg cap5 w5 hown5 hgrow5 hat5 hlt5))
      have hne : ∀ b, b ≤ w1.heap.size → some b ≠ vo.ownBlock := fun b hb e => by have := HOL.out b e.symm; omega
      have f0 : w5.cell? ⟨w1.heap.size, 0, none⟩ = some (.int .i64 mx) := (hgrow5.cell_far ⟨w1.heap.size, 0, none⟩ (by first | omega | (simp; done) | (simp; omega)) (hne _ (Nat.le_refl _))).trans ((World.cell?_alloc_past _ _ _ (by omega)).trans q0)
      have f1 : w5.cell? ⟨w1.heap.size, 1, none⟩ = some (.int .i64 my) := (hgrow5.cell_far ⟨w1.heap.size, 1, none⟩ (by first | omega | (simp; done) | (simp; omega)) (hne _ (Nat.le_refl _))).trans ((World.cell?_alloc_past _ _ _ (by omega)).trans q1)
      have f2 : w5.cell? ⟨P, 0, none⟩ = some (.int .i64 q) := (hgrow5.cell_far ⟨P, 0, none⟩ (show P < _ by first | omega | (simp; done) | (simp; omega)) (hne P (by omega))).trans ((World.cell?_alloc_past _ _ _ (by omega)).trans q2)
      have hb5 : Below w.heap.size w w5 := Below.grown (Below.alloc hb33 hb33.size _) hgrow5 (by first | (simp; omega) | omega) (fun q hq => by have := HOL.out q hq; omega)
      have hown6 : OwnPairs 24 w5 (w1.heap.size + 1) (.slice (some ⟨gg, 0, none⟩) (acc.length + 1) cap5) (G (k + 1)) := by rw [HST.out, OwnPairs, pairV_append, List.length_append]; simpa [pairV] using hown5
      have HO6 := Lib.hid hown6
      have hs6 := hgrow5.size
      (try simp at hs6)
      clear hat5 hgrow5 hown5 hown6 hne q0 q1 q2
      have hs5 := hb5.size
      go_wp2
      go_roundw
      case rel => exact ⟨k + 1, _, by omega, by go_num, rfl, HO6, f0, f1, f2, hb5, by omega⟩
      case measure => simp [intOf]; omega
    · obtain rfl : k = l.length := by omega
      have HOB := Lib.hid (fun (W : World) (hb : Below wr.heap.size wr W) => own_below HOWN.out hb)
      go_wp2_with (go_at_call 47; (refine (HFO.out _ _ _ (HOB.out _ (by repeat (first | exact Below.refl _ _ | assumption | refine Below.drew ?_ | refine below_drewN ?_ _ | refine Below.alloc ?_ (by first | omega | (simp; done) | (simp; omega)) _ | refine Below.setCell ?_ (by first | omega | (simp; done) | (simp; omega)) _ | refine Below.trans ?_ (Below.mono (by assumption) (by first | omega | (simp; done) | (simp; omega))))))).mono ?_; rintro e w4 ⟨v4, rfl, ho4, hb4⟩; have hs4 := hb4.size))
      go_ret2
      exact ⟨_, rfl, own_mono ho4 (by omega), (by repeat (first | exact Below.refl _ _ | assumption | refine Below.drew ?_ | refine below_drewN ?_ _ | refine Below.alloc ?_ (by first | omega | (simp; done) | (simp; omega)) _ | refine Below.setCell ?_ (by first | omega | (simp; done) | (simp; omega)) _ | refine Below.trans ?_ (Below.mono (by assumption) (by first | omega | (simp; done) | (simp; omega)))))⟩

end Go.Proofs.Ytppnomflmacpkaa
