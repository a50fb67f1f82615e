/- The text of a chart, both sides. No conditions but those written in each theorem (the library's table reads as it is laid). -/
import Derived.Test.YtfimjfchdaioeaaDoorChTextS
import Derived.Test.YtfimjfchdaioeaaDoorStTextI
import Derived.Test.YtfimjfchdaioeaaDoorChIf
import Derived.Test.YtfimjfchdaioeaaDoorShelf
import Derived.IntWalk
namespace Go.Proofs.YtfimjfchdaioeaaDoor
open Go.RowKit


attribute [local go_sem ↓] Go.wp_at_zero Go.wp_at_succ

theorem bAtF_below {T e : TypeId} {B b : Nat} {p : Value} {xs : List Value} {W W' : World} (h : Lib.BuilderAtF T e B b p xs W) (hb : Below W.heap.size W W') : Lib.BuilderAtF T e B b p xs W' := by
  have hlt := h.lt
  obtain ⟨hB, v, hv, hown, hne⟩ := h
  exact ⟨hB, v, (hb.block b hlt).trans hv, hown.kept (row := none) ⟨hb.os, hb.tape, hb.output, hb.size, fun k hk _ => hb.block k hk⟩ (Classical.em _), hne⟩
theorem bF_below {T e : TypeId} {B b : Nat} {xs : List Value} {W W' : World} (h : Lib.IsBuilderF T e B b xs W) (hb : Below W.heap.size W W') : Lib.IsBuilderF T e B b xs W' :=
  h.elim (fun x => .inl (bAtF_below x hb)) (fun x => .inr (bAtF_below x hb))
theorem bF_alloc {T e : TypeId} {B b : Nat} {xs : List Value} {W : World} (h : Lib.IsBuilderF T e B b xs W) (o : Obj) : Lib.IsBuilderF T e B b xs (W.alloc o) :=
  h.elim (fun x => .inl (x.alloc o)) (fun x => .inr (x.alloc o))
theorem strCells_bs (l : List UInt8) : Lib.strCells (bs l) = Lib.byteCells l := rfl
/-- ChartText's answer. -/
def chTxt (l : List (Int × Int)) : ByteArray := if chOk l then chT l else ⟨#[]⟩
theorem chTxt_yes {l : List (Int × Int)} (h : chOk l = true) : chTxt l = chT l := by unfold chTxt; rw [if_pos h]
theorem chTxt_no {l : List (Int × Int)} (h : chOk l = false) : chTxt l = ⟨#[]⟩ := by unfold chTxt; rw [h]; rfl

theorem specChartText_no (a : Option Addr) (cap : Nat) (l : List (Int × Int)) (hl : l.length ≤ 1048576) (hc : l.length ≤ cap) {w : World} (ha : PairsAt w a l) (hv : chOk l = false) :
    Calls Tryd.prog 5 #[.slice a l.length cap] w fun e w' => e = .returned (.tuple #[.string ⟨#[]⟩, .bool false]) ∧ Below w.heap.size w w' := by
  have HG := Lib.hid (fun (W : World) (hb : Below w.heap.size w W) => chGood_any a cap l hl hc (ha.below hb))
  rw [hv] at HG
  clear hv ha
  go_enter Tryd.func5, Tryd.ntmps5
  go_wp2_with (first | (go_at_call 9; ((with_reducible refine (HG.out _ (by repeat (first | exact Below.refl _ _ | assumption | refine Below.drew ?_ | refine below_drewN ?_ _ | refine Below.alloc ?_ (by first | omega | (simp; done) | (simp; omega)) _ | refine Below.setCell ?_ (by first | omega | (simp; done) | (simp; omega)) _ | refine Below.trans ?_ (Below.mono (by assumption) (by first | omega | (simp; done) | (simp; omega)))))).mono ?_); rintro e w1 ⟨rfl, hb1⟩; have hs1 := hb1.size)))
  go_ret2
  exact ⟨rfl, (by repeat (first | exact Below.refl _ _ | assumption | refine Below.drew ?_ | refine below_drewN ?_ _ | refine Below.alloc ?_ (by first | omega | (simp; done) | (simp; omega)) _ | refine Below.setCell ?_ (by first | omega | (simp; done) | (simp; omega)) _ | refine Below.trans ?_ (Below.mono (by assumption) (by first | omega | (simp; done) | (simp; omega)))))⟩
theorem specChartText_yes (a : Option Addr) (cap : Nat) (l : List (Int × Int)) (hl : l.length ≤ 1048576) (hc : l.length ≤ cap) {w : World} (ha : PairsAt w a l) (hv : chOk l = true) :
    Calls Tryd.prog 5 #[.slice a l.length cap] w fun e w' => e = .returned (.tuple #[.string (chT l), .bool true]) ∧ Below w.heap.size w w' := by
  have HG := Lib.hid (fun (W : World) (hb : Below w.heap.size w W) => chGood_any a cap l hl hc (ha.below hb))
  have HC := Lib.hid (fun (W : World) (hb : Below w.heap.size w W) => chText_any a cap l hl hc (allOn_at (chOk_parts hv).1) (ha.below hb))
  rw [hv] at HG
  clear hv ha
  go_enter Tryd.func5, Tryd.ntmps5
  go_wp2_with (first | (go_at_call 9; ((with_reducible refine (HG.out _ (by repeat (first | exact Below.refl _ _ | assumption | refine Below.drew ?_ | refine below_drewN ?_ _ | refine Below.alloc ?_ (by first | omega | (simp; done) | (simp; omega)) _ | refine Below.setCell ?_ (by first | omega | (simp; done) | (simp; omega)) _ | refine Below.trans ?_ (Below.mono (by assumption) (by first | omega | (simp; done) | (simp; omega)))))).mono ?_); rintro e w1 ⟨rfl, hb1⟩; have hs1 := hb1.size)) | (go_at_call 10; ((with_reducible refine (HC.out _ (by repeat (first | exact Below.refl _ _ | assumption | refine Below.drew ?_ | refine below_drewN ?_ _ | refine Below.alloc ?_ (by first | omega | (simp; done) | (simp; omega)) _ | refine Below.setCell ?_ (by first | omega | (simp; done) | (simp; omega)) _ | refine Below.trans ?_ (Below.mono (by assumption) (by first | omega | (simp; done) | (simp; omega)))))).mono ?_); rintro e w1 ⟨rfl, hb1⟩; have hs1 := hb1.size)))
  go_ret2
  exact ⟨rfl, (by repeat (first | exact Below.refl _ _ | assumption | refine Below.drew ?_ | refine below_drewN ?_ _ | refine Below.alloc ?_ (by first | omega | (simp; done) | (simp; omega)) _ | refine Below.setCell ?_ (by first | omega | (simp; done) | (simp; omega)) _ | refine Below.trans ?_ (Below.mono (by assumption) (by first | omega | (simp; done) | (simp; omega)))))⟩
theorem specChartText_any (a : Option Addr) (cap : Nat) (l : List (Int × Int)) (hl : l.length ≤ 1048576) (hc : l.length ≤ cap) {w : World} (ha : PairsAt w a l) :
    Calls Tryd.prog 5 #[.slice a l.length cap] w fun e w' => e = .returned (.tuple #[.string (chTxt l), .bool (chOk l)]) ∧ Below w.heap.size w w' := by
  cases hm : chOk l
  · rw [chTxt_no hm]; exact specChartText_no a cap l hl hc ha hm
  · rw [chTxt_yes hm]; exact specChartText_yes a cap l hl hc ha hm
theorem chartText_no (a : Option Addr) (cap : Nat) (l : List (Int × Int)) (hl : l.length ≤ 1048576) {w : World} (ha : PairsAt w a l) (hv : chOk l = false) :
    Calls Tryd.prog 7 #[.slice a l.length cap] w fun e w' => e = .returned (.tuple #[.string ⟨#[]⟩, .bool false]) ∧ Below w.heap.size w w' := by
  have HG := Lib.hid (fun (W : World) (hb : Below w.heap.size w W) => isChart_any a cap l hl (ha.below hb))
  rw [hv] at HG
  clear hv ha
  go_enter Tryd.func7, Tryd.ntmps7
  go_wp2_with (first | (go_at_call 12; ((with_reducible refine (HG.out _ (by repeat (first | exact Below.refl _ _ | assumption | refine Below.drew ?_ | refine below_drewN ?_ _ | refine Below.alloc ?_ (by first | omega | (simp; done) | (simp; omega)) _ | refine Below.setCell ?_ (by first | omega | (simp; done) | (simp; omega)) _ | refine Below.trans ?_ (Below.mono (by assumption) (by first | omega | (simp; done) | (simp; omega)))))).mono ?_); rintro e w1 ⟨rfl, hb1⟩; have hs1 := hb1.size)))
  go_ret2
  exact ⟨rfl, (by repeat (first | exact Below.refl _ _ | assumption | refine Below.drew ?_ | refine below_drewN ?_ _ | refine Below.alloc ?_ (by first | omega | (simp; done) | (simp; omega)) _ | refine Below.setCell ?_ (by first | omega | (simp; done) | (simp; omega)) _ | refine Below.trans ?_ (Below.mono (by assumption) (by first | omega | (simp; done) | (simp; omega)))))⟩

set_option maxHeartbeats 2000000 in
theorem chartText_yes (a : Option Addr) (cap : Nat) (l : List (Int × Int)) (hl : l.length ≤ 1048576) {w : World} (ha : PairsAt w a l) (hv : chOk l = true) (ht : Tab w.heap.size w) :
    Calls Tryd.prog 7 #[.slice a l.length cap] w fun e w' => e = .returned (.tuple #[.string (chT l), .bool true]) ∧ Below w.heap.size w w' := by
  have HG := Lib.hid (fun (W : World) (hb : Below w.heap.size w W) => isChart_any a cap l hl (ha.below hb))
  have Hat := Lib.hid (allOn_at (chOk_parts hv).1)
  have HL := Lib.hid (chOk_parts hv).2.2
  have HA := Lib.hid ha
  have HT := Lib.hid ht
  rw [hv] at HG
  clear hv ha ht
  go_enter Tryd.func7, Tryd.ntmps7
  go_wp2_with (first | (go_at_call 12; ((with_reducible refine (HG.out _ (by repeat (first | exact Below.refl _ _ | assumption | refine Below.drew ?_ | refine below_drewN ?_ _ | refine Below.alloc ?_ (by first | omega | (simp; done) | (simp; omega)) _ | refine Below.setCell ?_ (by first | omega | (simp; done) | (simp; omega)) _ | refine Below.trans ?_ (Below.mono (by assumption) (by first | omega | (simp; done) | (simp; omega)))))).mono ?_); rintro e w1 ⟨rfl, hb1⟩; have hs1 := hb1.size)))
  go_loopw [14] (fun i wr => ∃ k : Nat, k ≤ l.length ∧ i = .int .i64 k ∧ Lib.IsBuilderF 39 5 w1.heap.size w1.heap.size (Lib.byteCells (chTx l k)) wr ∧ Below w1.heap.size w1 wr ∧ w1.heap.size < wr.heap.size) (fun i _ => l.length - (intOf i).toNat)
  case atStart => exact ⟨0, Nat.zero_le _, rfl, Lib.IsBuilderF.of (Lib.fresh_isBuilder 39 5 w1), (by repeat (first | exact Below.refl _ _ | assumption | refine Below.drew ?_ | refine below_drewN ?_ _ | refine Below.alloc ?_ (by first | omega | (simp; done) | (simp; omega)) _ | refine Below.setCell ?_ (by first | omega | (simp; done) | (simp; omega)) _ | refine Below.trans ?_ (Below.mono (by assumption) (by first | omega | (simp; done) | (simp; omega))))), by simp⟩
  case round =>
    obtain ⟨k, hk, rfl, hI, hbr, hzr⟩ := hrel
    have hsr := hbr.size
    have HI := Lib.hid hI
    clear hI
    by_cases hlt : k < l.length
    · have hbw : Below w.heap.size w wr := hb1.trans (hbr.mono hs1)
      obtain ⟨b, off, rfl, c0, c1⟩ := (HA.out.below hbw) k hlt
      have ho := Hat.out k hlt
      have g1 := sptL_size ho
      have g3 := chTx_size (l := l) Hat.out k hk
      have hl12 := HL.out.2
      have HS := Lib.hid (fun (W : World) (hb : Below w1.heap.size w1 W) (hz : w1.heap.size ≤ W.heap.size) => spotText_yes (sx l k) (sy l k) ho (w := W) (fun x hx => HT.out x (hb1.trans ((hb.trans (hx.mono hz)).mono hs1))))
      obtain ⟨c, hcx⟩ : ∃ c, c = sx l k := ⟨_, rfl⟩
      obtain ⟨t, htt⟩ : ∃ t, t = sy l k := ⟨_, rfl⟩
      have hnew : chTx l (k + 1) = chTx l k ++ (sptL (sx l k) (sy l k) ++ [10]) := rfl
      rw [sptL_bs] at HS
      rw [← hcx] at c0 HS hnew g1
      rw [← htt] at c1 HS hnew g1
      obtain ⟨d, hd⟩ : ∃ d, d = sptL c t := ⟨_, rfl⟩
      obtain ⟨s, hs⟩ : ∃ s, s = chTx l k := ⟨_, rfl⟩
      rw [← hd] at HS hnew g1
      rw [← hs] at hnew g3 HI
      obtain ⟨m1, hm1⟩ : ∃ m, d ++ [10] = m := ⟨_, rfl⟩
      have k1 : m1.length ≤ 124 := by rw [← hm1]; simp; omega
      have hr1 := cat_oneF (P := Tryd.prog) hm1 (by omega)
      have HLN := Lib.hid (show (Lib.byteCells s).length + (bs m1).size ≤ 140737488355328 by rw [Lib.byteCells_length]; have : (bs m1).size = m1.length := rfl; omega)
      rw [hm1] at hnew
      have HN := Lib.hid (show Lib.byteCells s ++ Lib.strCells (bs m1) = Lib.byteCells (chTx l (k + 1)) by rw [strCells_bs, hnew, Lib.byteCells_append])
      clear hnew hcx htt ho hd hs hm1 g1 g3 k1 hl12
      go_wp2_with (first | (go_at_call 13; ((with_reducible refine (HS.out _ (by repeat (first | exact Below.refl _ _ | assumption | refine Below.drew ?_ | refine below_drewN ?_ _ | refine Below.alloc ?_ (by first | omega | (simp; done) | (simp; omega)) _ | refine Below.setCell ?_ (by first | omega | (simp; done) | (simp; omega)) _ | refine Below.trans ?_ (Below.mono (by assumption) (by first | omega | (simp; done) | (simp; omega))))) (by first | omega | (simp; done) | (simp; omega))).mono ?_); rintro e w3 ⟨rfl, hb3⟩; have hI2 := bF_below (bF_alloc HI.out _) hb3; have hs3 := hb3.size; (try simp at hs3); have hz3 : w1.heap.size ≤ w3.heap.size := (by omega))) | (go_at_call 14; (refine (Tryd.Builder_WriteString_k w1.heap.size w1.heap.size _ _ _ hI2 HLN.out hz3).mono ?_; rintro e w4 ⟨rfl, h4, b4, k4⟩; have hs4 := b4.size)))
      go_roundw
      case rel => exact ⟨k + 1, by omega, by go_num, .inr (by have h5 := h4; rw [HN.out] at h5; exact h5), (by repeat (first | exact Below.refl _ _ | assumption | refine Below.drew ?_ | refine below_drewN ?_ _ | refine Below.alloc ?_ (by first | omega | (simp; done) | (simp; omega)) _ | refine Below.setCell ?_ (by first | omega | (simp; done) | (simp; omega)) _ | refine Below.trans ?_ (Below.mono (by assumption) (by first | omega | (simp; done) | (simp; omega))))), by omega⟩
      case measure => simp [intOf]; omega
    · obtain rfl : k = l.length := by omega
      go_wp2_with (first | (go_at_call 15; (refine (Tryd.Builder_String_any_k w1.heap.size w1.heap.size _ _ HI.out (by omega)).mono ?_; rintro e w4 ⟨rfl, h4, b4, k4⟩; have hs4 := b4.size)))
      go_ret2
      exact ⟨rfl, (by repeat (first | exact Below.refl _ _ | assumption | refine Below.drew ?_ | refine below_drewN ?_ _ | refine Below.alloc ?_ (by first | omega | (simp; done) | (simp; omega)) _ | refine Below.setCell ?_ (by first | omega | (simp; done) | (simp; omega)) _ | refine Below.trans ?_ (Below.mono (by assumption) (by first | omega | (simp; done) | (simp; omega)))))⟩
theorem chartText_any (a : Option Addr) (cap : Nat) (l : List (Int × Int)) (hl : l.length ≤ 1048576) {w : World} (ha : PairsAt w a l) (ht : Tab w.heap.size w) :
    Calls Tryd.prog 7 #[.slice a l.length cap] w fun e w' => e = .returned (.tuple #[.string (chTxt l), .bool (chOk l)]) ∧ Below w.heap.size w w' := by
  cases hm : chOk l
  · rw [chTxt_no hm]; exact chartText_no a cap l hl ha hm
  · rw [chTxt_yes hm]; exact chartText_yes a cap l hl ha hm ht

end Go.Proofs.YtfimjfchdaioeaaDoor
