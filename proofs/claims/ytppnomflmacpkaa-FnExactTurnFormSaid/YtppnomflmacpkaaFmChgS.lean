/- Spread and turned forms, the other side. No conditions but those written in each theorem. -/
import Derived.Test.YtppnomflmacpkaaFmChg
import Derived.Test.YtppnomflmacpkaaFmWay
import Derived.Deep.RegionHeld3
import Derived.Deep.DrawnRows
import Derived.IntWalk
import Derived.Laws.AppendOwn
import Derived.Deep.AppendLies
namespace Go.Proofs.Ytppnomflmacpkaa
open Go.RowKit


attribute [local go_sem ↓] Go.wp_at_zero Go.wp_at_succ

set_option maxHeartbeats 1000000 in
theorem specSpread_no (a : Option Addr) (cap : Nat) (l : List (Int × Int)) (hl : l.length ≤ 1048576) (hc : l.length ≤ cap) {w : World} (ha : PairsAt w a l) (p : Int) (hk : sprO l p = false) :
    Calls Try.prog 27 #[.slice a l.length cap, .int .i64 p] w fun e w' => e = .returned (.tuple #[.slice none 0 0, .bool false]) ∧ Below w.heap.size w w' := by
  have hs := fun (W : World) (hb : Below w.heap.size w W) => chGood_any a cap l hl hc (ha.below hb)
  unfold sprO at hk
  cases h1 : chOk l <;> cases h2 : inB 1 p 400
  all_goals first | (exfalso; rw [h1, h2] at hk; cases hk; done) | clear hk
  all_goals
    rw [h1] at hs
    have HS := Lib.hid hs
    have H1 := Lib.hid h2
    clear h1 h2 hs
    go_enter Try.func27, Try.ntmps27
    go_wp2_with (first | (go_at_call 51; (refine (HS.out _ (by repeat (first | exact Below.refl _ _ | assumption | refine Below.drew ?_ | refine below_drewN ?_ _ | refine Below.alloc ?_ (by first | omega | (simp; done) | (simp; omega)) _ | refine Below.setCell ?_ (by first | omega | (simp; done) | (simp; omega)) _ | refine Below.trans ?_ (Below.mono (by assumption) (by first | omega | (simp; done) | (simp; omega)))))).mono ?_; rintro e w1 ⟨rfl, hb1⟩; have hs1 := hb1.size)) | (go_at_call 32; (refine (l1In_any _ _ _ _).mono ?_; rw [H1.out]; rintro e w' ⟨rfl, rfl⟩)))
    go_ret2
    exact ⟨rfl, (by repeat (first | exact Below.refl _ _ | assumption | refine Below.drew ?_ | refine below_drewN ?_ _ | refine Below.alloc ?_ (by first | omega | (simp; done) | (simp; omega)) _ | refine Below.setCell ?_ (by first | omega | (simp; done) | (simp; omega)) _ | refine Below.trans ?_ (Below.mono (by assumption) (by first | omega | (simp; done) | (simp; omega)))))⟩

set_option maxHeartbeats 8000000 in
theorem specSpread_yes (a : Option Addr) (cap : Nat) (l : List (Int × Int)) (hl : l.length ≤ 1048576) (hc : l.length ≤ cap) {w : World} (ha : PairsAt w a l) (p : Int) (hin : inB 1 p 400 = true) (hv : chOk l = true) :
    Calls Try.prog 27 #[.slice a l.length cap, .int .i64 p] w fun e w' => ∃ v, e = .returned (.tuple #[v, .bool (chOk (chgTo (sprG p) l l.length))]) ∧ OwnPairs 24 w' w.heap.size v (chIf (chgTo (sprG p) l l.length)) ∧ Below w.heap.size w w' := by
  obtain ⟨p0, p1⟩ := inB_iff.1 hin
  obtain ⟨j0, hi, hz0, hz1, hz2⟩ := info_parts Try.infoSpot
  have HI := Lib.hid hi
  have HZ0 := Lib.hid hz0
  have HZ1 := Lib.hid hz1
  have HZ2 := Lib.hid hz2
  clear hi hz0 hz1 hz2
  have hs := fun (W : World) (hb : Below w.heap.size w W) => chGood_any a cap l hl hc (ha.below hb)
  rw [hv] at hs
  have HS := Lib.hid hs
  obtain ⟨c1, c2, c3, c4⟩ := chOk_parts hv
  have hm := fun (W : World) (hb : Below w.heap.size w W) => fmMiddle_any a cap l c1 c3 c4 (ha.below hb)
  have HM := Lib.hid hm
  obtain ⟨⟨m1, m2⟩, m3, m4⟩ := mid_bound c1 c3
  have hln : (chgTo (sprG p) l l.length).length ≤ 1048576 := by rw [chgTo_length]; exact hl
  have HFO := Lib.hid (fun W b v ho => chIfS (w := W) (base := b) (v := v) hln ho)
  have HA := Lib.hid ha
  have HON := Lib.hid c1
  have H1 := Lib.hid hin
  have HG := Lib.hid (fun k => show chgTo (sprG p) l (k + 1) = chgTo (sprG p) l k ++ [(midX l + ((sprG p) (sx l k - midX l) (sy l k - midY l)).1, midY l + ((sprG p) (sx l k - midX l) (sy l k - midY l)).2)] from rfl)
  have HGL := Lib.hid (fun k => chgTo_length (sprG p) l k)
  obtain ⟨G, hG⟩ : ∃ G, G = chgTo (sprG p) l := ⟨_, rfl⟩
  have h0 : G 0 = [] := by rw [hG]; rfl
  rw [← hG] at HFO HG HGL ⊢
  obtain ⟨mx, hmx⟩ : ∃ m, m = midX l := ⟨_, rfl⟩
  obtain ⟨my, hmy⟩ : ∃ m, m = midY l := ⟨_, rfl⟩
  rw [← hmx] at HG HM m1 m2
  rw [← hmy] at HG HM m3 m4
  have H0 := Lib.hid h0
  clear hv hm hs ha c1 hln hG hmx hmy h0
  clear hin
  go_enter Try.func27, Try.ntmps27
  go_wp2_with (first | (go_at_call 51; (refine (HS.out _ (by repeat (first | exact Below.refl _ _ | assumption | refine Below.drew ?_ | refine below_drewN ?_ _ | refine Below.alloc ?_ (by first | omega | (simp; done) | (simp; omega)) _ | refine Below.setCell ?_ (by first | omega | (simp; done) | (simp; omega)) _ | refine Below.trans ?_ (Below.mono (by assumption) (by first | omega | (simp; done) | (simp; omega)))))).mono ?_; rintro e w1 ⟨rfl, hb1⟩; have hs1 := hb1.size)) | (go_at_call 32; (refine (l1In_any _ _ _ _).mono ?_; rw [H1.out]; rintro e w' ⟨rfl, rfl⟩)) | (go_at_call 52; (refine (HM.out _ (by repeat (first | exact Below.refl _ _ | assumption | refine Below.drew ?_ | refine below_drewN ?_ _ | refine Below.alloc ?_ (by first | omega | (simp; done) | (simp; omega)) _ | refine Below.setCell ?_ (by first | omega | (simp; done) | (simp; omega)) _ | refine Below.trans ?_ (Below.mono (by assumption) (by first | omega | (simp; done) | (simp; omega)))))).mono ?_; rintro e w2 ⟨rfl, hb2⟩; have hs2 := hb2.size)))
  have hbw2 : Below w.heap.size w w2 := (by repeat (first | exact Below.refl _ _ | assumption | refine Below.drew ?_ | refine below_drewN ?_ _ | refine Below.alloc ?_ (by first | omega | (simp; done) | (simp; omega)) _ | refine Below.setCell ?_ (by first | omega | (simp; done) | (simp; omega)) _ | refine Below.trans ?_ (Below.mono (by assumption) (by first | omega | (simp; done) | (simp; omega)))))
  clear hb1 hb2
  go_loopw [7, 22] (fun ov i wr => ∃ (k : Nat) (vo : Value), k ≤ l.length ∧ i = .int .i64 k ∧ ov = vo ∧ Hid (OwnPairs 24 wr (w2.heap.size + 1) vo (G k)) ∧ wr.cell? ⟨w2.heap.size, 0, none⟩ = some (.int .i64 mx) ∧ wr.cell? ⟨w2.heap.size, 1, none⟩ = some (.int .i64 my) ∧ Below w.heap.size w wr ∧ w2.heap.size + 1 ≤ wr.heap.size) (fun _ i _ => l.length - (intOf i).toNat)
  case atStart => exact ⟨0, _, Nat.zero_le _, rfl, rfl, Lib.hid (by rw [H0.out]; exact own_nil _ _ _), by go_simp, by go_simp, (by repeat (first | exact Below.refl _ _ | assumption | refine Below.drew ?_ | refine below_drewN ?_ _ | refine Below.alloc ?_ (by first | omega | (simp; done) | (simp; omega)) _ | refine Below.setCell ?_ (by first | omega | (simp; done) | (simp; omega)) _ | refine Below.trans ?_ (Below.mono (by assumption) (by first | omega | (simp; done) | (simp; omega))))), (by first | omega | (simp; done) | (simp; omega))⟩
  case round =>
    obtain ⟨k, vo, hk, rfl, hv, HOWN, d0, d1, hbr, hws⟩ := hrel
    replace hv := hv.symm
    subst hv
    have hsr := hbr.size
    by_cases hlt : k < l.length
    · obtain ⟨b, off, rfl, e0, e1⟩ := (HA.out.below hbr) k hlt
      obtain ⟨⟨o1, o2⟩, o3, o4⟩ := onField_iff.1 (allOn_at HON.out k hlt)
      have hst := HG.out k
      have hal := HGL.out k
      obtain ⟨acc, hacc⟩ : ∃ acc, acc = G k := ⟨_, rfl⟩
      rw [← hacc] at HOWN hst hal
      have hal9 : acc.length ≤ 12 := by omega
      obtain ⟨X, hX⟩ : ∃ X, X = sx l k := ⟨_, rfl⟩
      obtain ⟨Y, hY⟩ : ∃ Y, Y = sy l k := ⟨_, rfl⟩
      rw [← hX] at e0 o1 o2 hst
      rw [← hY] at e1 o3 o4 hst
      have HOL := Lib.hid (World.ownsRow.lt HOWN.out)
      have HOWN2 := Lib.hid (fun (W : World) (hb : Below wr.heap.size wr W) => own_below HOWN.out hb)
      have v1 : IntKind.i64.wrap (X - mx) = X - mx := IntWalk.i64_in _ (by omega)
      have v2 : IntKind.i64.wrap (Y - my) = Y - my := IntWalk.i64_in _ (by omega)
      have n5 : ¬ wr.heap.size = w2.heap.size := by omega
      have n6 : ¬ w2.heap.size = wr.heap.size := by omega
      have n8 : w2.heap.size < wr.heap.size := by omega
      have HE := Lib.hid e0
      have HF := Lib.hid e1
      obtain ⟨wo, rfl⟩ : ∃ wo, wo = wr := ⟨_, rfl⟩
      obtain ⟨⟨a1, a2⟩, a3, a4⟩ := spr_bound (x := X - mx) (p := p) (by omega) (by omega) p0 p1
      obtain ⟨⟨b1, b2⟩, b3, b4⟩ := spr_bound (x := Y - my) (p := p) (by omega) (by omega) p0 p1
      have v3 : IntKind.i64.wrap ((X - mx) * p) = (X - mx) * p := IntWalk.i64_in _ (by omega)
      have v4 : IntKind.i64.wrap ((Y - my) * p) = (Y - my) * p := IntWalk.i64_in _ (by omega)
      have K1 := Lib.hid (fun W => fmRound_any ((X - mx) * p) 100 (by omega) (by omega) (by omega) (by omega) W)
      have K2 := Lib.hid (fun W => fmRound_any ((Y - my) * p) 100 (by omega) (by omega) (by omega) (by omega) W)
      have hst2 : G (k + 1) = acc ++ [(mx + rnd ((X - mx) * p) 100, my + rnd ((Y - my) * p) 100)] := hst
      obtain ⟨dx, hdx⟩ : ∃ d, d = rnd ((X - mx) * p) 100 := ⟨_, rfl⟩
      obtain ⟨dy, hdy⟩ : ∃ d, d = rnd ((Y - my) * p) 100 := ⟨_, rfl⟩
      rw [← hdx] at K1 hst2 a3 a4
      rw [← hdy] at K2 hst2 b3 b4
      have HST := Lib.hid hst2
      have v5 : IntKind.i64.wrap (mx + dx) = mx + dx := IntWalk.i64_in _ (by omega)
      have v6 : IntKind.i64.wrap (my + dy) = my + dy := IntWalk.i64_in _ (by omega)
      clear hacc hst hst2 hal hX hY hdx hdy
      go_wp2_with fail
      obtain ⟨W1, hW1⟩ : ∃ W1, W1 = wo.alloc (.cells #[.int .i64 X, .int .i64 Y] 24) := ⟨_, rfl⟩
      have hbW : Below wo.heap.size wo W1 := by rw [hW1]; exact (Below.refl _ _).alloc (Nat.le_refl _) _
      have t0 : W1.cell? ⟨w2.heap.size, 0, none⟩ = some (.int .i64 mx) := (hbW.cell (p := ⟨w2.heap.size, 0, none⟩) n8).trans d0
      have t1 : W1.cell? ⟨w2.heap.size, 1, none⟩ = some (.int .i64 my) := (hbW.cell (p := ⟨w2.heap.size, 1, none⟩) n8).trans d1
      have t2 : W1.cell? ⟨wo.heap.size, 0, none⟩ = some (.int .i64 X) := by rw [hW1, World.cell?_alloc_at _ _ _ _ rfl]; rfl
      have t3 : W1.cell? ⟨wo.heap.size, 1, none⟩ = some (.int .i64 Y) := by rw [hW1, World.cell?_alloc_at _ _ _ _ rfl]; rfl
      have hsW : wo.heap.size + 1 = W1.heap.size := by rw [hW1]; simp
      have HOWN3 := Lib.hid (fun (W : World) (hb : Below W1.heap.size W1 W) => HOWN2.out W (Below.trans hbW (Below.mono hb (by omega))))
      have hbW2 : Below w.heap.size w W1 := Below.trans hbr (Below.mono hbW hsr)
      have HOL3 := Lib.hid (fun q hq => show w2.heap.size + 1 ≤ q ∧ q < wo.heap.size from HOL.out q hq)
      rw [← hW1]
      have hsW2 : wo.heap.size < W1.heap.size := by omega
      clear hW1 d0 d1 hbW
      have hsW3 := Lib.hid hsW
      clear hsW
      go_region_held3 (fun w' => w'.cell? ⟨w2.heap.size, 0, none⟩ = some (.int .i64 mx) ∧ w'.cell? ⟨w2.heap.size, 1, none⟩ = some (.int .i64 my) ∧ w'.cell? ⟨wo.heap.size, 0, none⟩ = some (.int .i64 X) ∧ w'.cell? ⟨wo.heap.size, 1, none⟩ = some (.int .i64 Y))
        (first | (refine ⟨?_, ?_, ?_, ?_⟩ <;> first | (go_keep; done) | (simp [*, World.cell?_alloc_past, World.cell?_setCell_far]; done) | (simp [*, World.cell?_alloc_past, World.cell?_alloc_at, World.cell?_setCell_far]; done) | (go_simp; done)) | (refine ⟨?_, ?_, ?_, ?_⟩ <;> first | (rw [hgrow5.cell_far _ (by first | omega | (simp; done) | (simp; omega)) (fun e => by have := HOL.out _ e.symm; first | omega | (simp at this; done) | (simp at this; omega))]; first | assumption | (go_simp; done))))
        (first | (go_at_call 55; ((with_reducible refine (K1.out _).mono ?_); rintro e w' ⟨rfl, rfl⟩)) | (go_at_call 55; ((with_reducible refine (K2.out _).mono ?_); rintro e w' ⟨rfl, rfl⟩)) | ((refine step_append_lies _ (by rfl) _ _ 32 (by rfl) (w2.heap.size + 1) 24 j0 (.agg #[.int .i64 0, .int .i64 0]) 2 16 Try.underlying32 HI.out HZ0.out HZ1.out HZ2.out rfl (by omega) vo (acc.length) (pairV acc) (by rfl) (HOWN3.out _ (by repeat (first | exact Below.refl _ _ | assumption | refine Below.drew ?_ | refine below_drewN ?_ _ | refine Below.alloc ?_ (by first | omega | (simp; done) | (simp; omega)) _ | refine Below.setCell ?_ (by first | omega | (simp; done) | (simp; omega)) _ | refine Below.trans ?_ (Below.mono (by assumption) (by first | omega | (simp; done) | (simp; omega)))))) ⟨_, 0, none⟩ 1 1 [.int .i64 (mx + dx), .int .i64 (my + dy)] (by rfl) (by rfl) (World.news_of_block (cs := #[.int .i64 (mx + dx), .int .i64 (my + dy)]) (t := 24) (fr := (0, 0)) (heap_alloc_new _ _)) (by simp [Value.oneCell']) (by omega) (by unfold maxLen; omega) (by omega) (by simp; omega) _ rfl ?_; intro gg cap5 w5 hown5 hgrow5 hat5 hlt5)))
      all_goals
        obtain ⟨f0, f1, _, _⟩ : w5.cell? ⟨w2.heap.size, 0, none⟩ = some (.int .i64 mx) ∧ w5.cell? ⟨w2.heap.size, 1, none⟩ = some (.int .i64 my) ∧ w5.cell? ⟨wo.heap.size, 0, none⟩ = some (.int .i64 X) ∧ w5.cell? ⟨wo.heap.size, 1, none⟩ = some (.int .i64 Y) := by assumption
        have hb5 : Below w.heap.size w w5 := Below.grown (by repeat (first | exact Below.refl _ _ | assumption | refine Below.drew ?_ | refine below_drewN ?_ _ | refine Below.alloc ?_ (by first | omega | (simp; done) | (simp; omega)) _ | refine Below.setCell ?_ (by first | omega | (simp; done) | (simp; omega)) _ | refine Below.trans ?_ (Below.mono (by assumption) (by first | omega | (simp; done) | (simp; omega))))) hgrow5 (by first | (simp; omega) | omega) (fun q hq => by have := HOL.out q hq; omega)
        have hown6 : OwnPairs 24 w5 (w2.heap.size + 1) (.slice (some ⟨gg, 0, none⟩) (acc.length + 1) cap5) (G (k + 1)) := by rw [HST.out, OwnPairs, pairV_append, List.length_append]; simpa [pairV] using hown5
        have HO6 := Lib.hid hown6
        have hs6 := hgrow5.size
        (try simp at hs6)
        clear hat5 hgrow5 hown5 hown6
        have hs5 := hb5.size
        go_wp2
        go_roundw
        case rel => exact ⟨k + 1, _, by omega, by go_num, rfl, HO6, f0, f1, hb5, by omega⟩
        case measure => simp [intOf]; omega
    · obtain rfl : k = l.length := by omega
      have HOB := Lib.hid (fun (W : World) (hb : Below wr.heap.size wr W) => own_below HOWN.out hb)
      go_wp2_with (go_at_call 44; (refine (HFO.out _ _ _ (HOB.out _ (by repeat (first | exact Below.refl _ _ | assumption | refine Below.drew ?_ | refine below_drewN ?_ _ | refine Below.alloc ?_ (by first | omega | (simp; done) | (simp; omega)) _ | refine Below.setCell ?_ (by first | omega | (simp; done) | (simp; omega)) _ | refine Below.trans ?_ (Below.mono (by assumption) (by first | omega | (simp; done) | (simp; omega))))))).mono ?_; rintro e w4 ⟨v4, rfl, ho4, hb4⟩; have hs4 := hb4.size))
      go_ret2
      exact ⟨_, rfl, own_mono ho4 (by omega), (by repeat (first | exact Below.refl _ _ | assumption | refine Below.drew ?_ | refine below_drewN ?_ _ | refine Below.alloc ?_ (by first | omega | (simp; done) | (simp; omega)) _ | refine Below.setCell ?_ (by first | omega | (simp; done) | (simp; omega)) _ | refine Below.trans ?_ (Below.mono (by assumption) (by first | omega | (simp; done) | (simp; omega)))))⟩

theorem specSpread_any (a : Option Addr) (cap : Nat) (l : List (Int × Int)) (hl : l.length ≤ 1048576) (hc : l.length ≤ cap) {w : World} (ha : PairsAt w a l) (p : Int) :
    Calls Try.prog 27 #[.slice a l.length cap, .int .i64 p] w fun e w' => ∃ v, e = .returned (.tuple #[v, .bool (sprO l p && chOk (sprL l p))]) ∧ OwnPairs 24 w' w.heap.size v (chIf (sprL l p)) ∧ Below w.heap.size w w' := by
  cases hk : sprO l p
  · have e : sprL l p = [] := by unfold sprL; rw [hk]; rfl
    rw [e, chIf_no (show chOk [] = false from rfl)]
    exact (specSpread_no a cap l hl hc ha p hk).mono fun e w' ⟨he, hb⟩ => ⟨_, he, own_nil _ _ _, hb⟩
  · have e : sprL l p = chgTo (sprG p) l l.length := by unfold sprL; rw [if_pos hk]
    rw [e]
    unfold sprO at hk
    rw [Bool.and_eq_true] at hk
    exact specSpread_yes a cap l hl hc ha p hk.2 hk.1

end Go.Proofs.Ytppnomflmacpkaa
