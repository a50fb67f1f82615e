/- Swapped and placed performers, both sides. No conditions but those written in each theorem. -/
import Derived.Test.YtfimjfchdaioeaaChIf
import Derived.Deep.RegionHeld3
import Derived.Deep.DrawnRows
import Derived.IntWalk
import Derived.Laws.AppendOwn
import Derived.Lib.SliceRun
import Derived.StillTailTactics
import Derived.Deep.DeepCutAuto
namespace Go.Proofs.Ytfimjfchdaioeaa
open Go.RowKit


attribute [local go_sem ↓] Go.wp_at_zero Go.wp_at_succ

set_option maxHeartbeats 1000000 in
theorem cloneS_any (a : Option Addr) (cap : Nat) (l : List (Int × Int)) (h1 : 1 ≤ l.length) (hl : l.length ≤ 1048576) {w : World} (ha : PairsAt w a l) :
    Calls Try.prog 63 #[.slice a l.length cap] w fun e w' => ∃ v, e = .returned v ∧ OwnPairs 41 w' w.heap.size v l ∧ Below w.heap.size w w' := by
  obtain ⟨b, off, rfl⟩ := ha.some_of h1
  obtain ⟨j0, hi, hz0, hz1, hz2⟩ := info_parts Try.infoSpot
  have HI := Lib.hid hi
  have HZ0 := Lib.hid hz0
  have HZ1 := Lib.hid hz1
  have HZ2 := Lib.hid hz2
  clear hi hz0 hz1 hz2
  have hnl : ∀ (w : World) (a : Option Addr) (n c n' c' : Nat), (binOp .eql 25 (.slice a n c) (.slice none n' c')).run Try.prog w = .ok (.bool a.isNone) w := fun w a n c n' c' => Lib.run_eql_slice_nil w _ _ a n c n' c' Try.underlying25
  have HA := Lib.hid ha
  clear ha
  go_enter Try.func63, Try.ntmps63
  go_wp2_with (at_builtin; refine wpList_append_own _ rfl _ _ 25 rfl (w.heap.size) 41 j0 (.agg #[.int .i64 0, .int .i64 0]) 2 16 Try.underlying25 HI.out HZ0.out HZ1.out HZ2.out rfl (by decide) _ _ _ rfl (World.ownsRow_made w #[] 0 (Nat.le_refl _) (Nat.zero_le _) (by simp)) ⟨b, off, none⟩ l.length cap (pairV l) rfl ?c1 ?c2 ?c3 ?c4 ?c5 ?c6 ?_)
  case c1 => exact pairV_length l
  case c2 =>
    intro j u hj
    rw [Addr.add_lit]
    exact pairs_cells (HA.out.alloc _) j u hj
  case c3 => exact pairV_one l
  case c4 => unfold maxLen; omega
  case c5 => omega
  case c6 => simp
  intro v' w1 hown hgrow hnil
  have Hown := Lib.hid hown
  have Hgrow := Lib.hid hgrow
  clear hnil hown hgrow
  go_wp2
  go_ret
  refine ⟨v', rfl, by simpa [OwnPairs] using Hown.out, ?_⟩
  exact ((Below.refl _ w).alloc (Nat.le_refl _) _).grown Hgrow.out (by simp) (by intro k hk; simp [Value.ownBlock] at hk; omega)
/-- One pair is set. -/
theorem pairV_set : ∀ (l : List (Int × Int)) (i : Nat) (x y : Int), pairV (l.set i (x, y)) = ((pairV l).set (i * 2) (.int .i64 x)).set (i * 2 + 1) (.int .i64 y)
  | [], i, x, y => by simp [pairV]
  | p :: r, 0, x, y => rfl
  | p :: r, k + 1, x, y => by
    have h := pairV_set r k x y
    have e : (k + 1) * 2 = k * 2 + 1 + 1 := by omega
    rw [List.set_cons_succ, e]
    simp only [pairV, List.set_cons_succ, h]
theorem own_setP {ty : TypeId} {w : World} {base g cap n : Nat} {l : List (Int × Int)} (h : w.ownsRow base ty 2 (.slice (some ⟨g, 0, none⟩) n cap) n (pairV l)) (i : Nat) (x y : Int) :
    ((w.setCell ⟨g, i * 2, none⟩ (.int .i64 x)).setCell ⟨g, i * 2 + 1, none⟩ (.int .i64 y)).ownsRow base ty 2 (.slice (some ⟨g, 0, none⟩) n cap) n (pairV (l.set i (x, y))) ∧ w.grownBy ((w.setCell ⟨g, i * 2, none⟩ (.int .i64 x)).setCell ⟨g, i * 2 + 1, none⟩ (.int .i64 y)) (some g) := by
  have h1 := h.stored (i * 2) (.int .i64 x)
  have h2 := h1.1.stored (i * 2 + 1) (.int .i64 y)
  rw [pairV_set]
  exact ⟨h2.1, gb_trans h1.2 h2.2⟩
/-- The cells of one pair of a list of one's own. -/
theorem own_at {ty : TypeId} {w : World} {base g cap n : Nat} {l : List (Int × Int)} (h : w.ownsRow base ty 2 (.slice (some ⟨g, 0, none⟩) n cap) n (pairV l)) {i : Nat} (hi : i < l.length) :
    w.cell? ⟨g, i * 2, none⟩ = some (.int .i64 (sx l i)) ∧ w.cell? ⟨g, i * 2 + 1, none⟩ = some (.int .i64 (sy l i)) ∧ w.frozen? ⟨g, i * 2, none⟩ = false ∧ w.frozen? ⟨g, i * 2 + 1, none⟩ = false := by
  have hlen := h.1
  rw [pairV_length] at hlen
  obtain ⟨p0, p1⟩ := pairV_get l i hi
  exact ⟨(h.cellAt (i * 2) (by omega)).trans p0, (h.cellAt (i * 2 + 1) (by omega)).trans p1, h.frozenAt (i * 2), h.frozenAt (i * 2 + 1)⟩
/-- A performer of the chart? -/
def hasP (l : List (Int × Int)) (i : Int) : Bool := inB 0 i ((l.length : Int) - 1)
theorem hasP_nat {l : List (Int × Int)} {i : Int} (h : hasP l i = true) : ∃ p : Nat, i = (p : Int) ∧ p < l.length := by
  have := inB_iff.1 h
  exact ⟨i.toNat, by omega, by omega⟩
/-- Two performers have each other's spot. -/
def swapL (l : List (Int × Int)) (p q : Nat) : List (Int × Int) := (l.set p (sx l q, sy l q)).set q (sx l p, sy l p)
def swO (l : List (Int × Int)) (i k : Int) : Bool := chOk l && hasP l i && hasP l k
def swL (l : List (Int × Int)) (i k : Int) : List (Int × Int) := if swO l i k then swapL l i.toNat k.toNat else []
theorem swL_no {l : List (Int × Int)} {i k : Int} (h : swO l i k = false) : swL l i k = [] := if_neg (by rw [h]; simp)
theorem swL_yes {l : List (Int × Int)} {i k : Int} (h : swO l i k = true) : swL l i k = swapL l i.toNat k.toNat := if_pos h
theorem swL_length (l : List (Int × Int)) (i k : Int) : (swL l i k).length ≤ l.length := by
  unfold swL swapL
  split <;> simp
def plO (l : List (Int × Int)) (i : Int) : Bool := chOk l && hasP l i
def plL (l : List (Int × Int)) (i x y : Int) : List (Int × Int) := if plO l i then chIf (l.set i.toNat (x, y)) else []
def plB (l : List (Int × Int)) (i x y : Int) : Bool := plO l i && chOk (l.set i.toNat (x, y))
theorem plL_no {l : List (Int × Int)} {i x y : Int} (h : plO l i = false) : plL l i x y = [] ∧ plB l i x y = false := ⟨if_neg (by rw [h]; simp), by unfold plB; rw [h]; rfl⟩
theorem plL_yes {l : List (Int × Int)} {i x y : Int} (h : plO l i = true) : plL l i x y = chIf (l.set i.toNat (x, y)) ∧ plB l i x y = chOk (l.set i.toNat (x, y)) := ⟨if_pos h, by unfold plB; rw [h]; rfl⟩
theorem plL_length (l : List (Int × Int)) (i x y : Int) : (plL l i x y).length ≤ 12 := by
  unfold plL
  split
  · exact chIf_length _
  · simp

set_option maxHeartbeats 1000000 in
theorem chHas_no (a : Option Addr) (cap : Nat) (l : List (Int × Int)) (hl : l.length ≤ 1048576) (hc : l.length ≤ cap) {w : World} (ha : PairsAt w a l) (i : Int) (hv : chOk l = false) :
    Calls Try.prog 61 #[.slice a l.length cap, .int .i64 i] w fun e w' => e = .returned (.bool (plO l i)) ∧ Below w.heap.size w w' := by
  have v1 : IntKind.i64.wrap ((l.length : Int) - 1) = (l.length : Int) - 1 := IntWalk.i64_in _ (by omega)
  have HG := Lib.hid (fun (W : World) (hb : Below w.heap.size w W) => chGood_any a cap l hl hc (ha.below hb))
  rw [hv] at HG
  have HE : Hid (plO l i = (false && inB 0 i ((l.length : Int) - 1))) := Lib.hid (by unfold plO hasP; rw [hv])
  clear hv ha
  go_enter Try.func61, Try.ntmps61
  go_wp2_with (first | (go_at_call 45; ((with_reducible refine (HG.out _ (by repeat (first | exact Below.refl _ _ | assumption | refine Below.drew ?_ | refine below_drewN ?_ _ | refine Below.alloc ?_ (by first | omega | (simp; done) | (simp; omega)) _ | refine Below.setCell ?_ (by first | omega | (simp; done) | (simp; omega)) _ | refine Below.trans ?_ (Below.mono (by assumption) (by first | omega | (simp; done) | (simp; omega)))))).mono ?_); rintro e w1 ⟨rfl, hb1⟩; have hs1 := hb1.size; (try simp at hs1))) | (go_at_call 53; (refine (l1In_any _ _ _ _).mono ?_; rintro e w' ⟨rfl, rfl⟩)))
  go_ret
  exact ⟨by rw [HE.out]; rfl, (by repeat (first | exact Below.refl _ _ | assumption | refine Below.drew ?_ | refine below_drewN ?_ _ | refine Below.alloc ?_ (by first | omega | (simp; done) | (simp; omega)) _ | refine Below.setCell ?_ (by first | omega | (simp; done) | (simp; omega)) _ | refine Below.trans ?_ (Below.mono (by assumption) (by first | omega | (simp; done) | (simp; omega)))))⟩

set_option maxHeartbeats 1000000 in
theorem chHas_yes (a : Option Addr) (cap : Nat) (l : List (Int × Int)) (hl : l.length ≤ 1048576) (hc : l.length ≤ cap) {w : World} (ha : PairsAt w a l) (i : Int) (hv : chOk l = true) :
    Calls Try.prog 61 #[.slice a l.length cap, .int .i64 i] w fun e w' => e = .returned (.bool (plO l i)) ∧ Below w.heap.size w w' := by
  have v1 : IntKind.i64.wrap ((l.length : Int) - 1) = (l.length : Int) - 1 := IntWalk.i64_in _ (by omega)
  have HG := Lib.hid (fun (W : World) (hb : Below w.heap.size w W) => chGood_any a cap l hl hc (ha.below hb))
  rw [hv] at HG
  have HE : Hid (plO l i = (true && inB 0 i ((l.length : Int) - 1))) := Lib.hid (by unfold plO hasP; rw [hv])
  clear hv ha
  go_enter Try.func61, Try.ntmps61
  go_wp2_with (first | (go_at_call 45; ((with_reducible refine (HG.out _ (by repeat (first | exact Below.refl _ _ | assumption | refine Below.drew ?_ | refine below_drewN ?_ _ | refine Below.alloc ?_ (by first | omega | (simp; done) | (simp; omega)) _ | refine Below.setCell ?_ (by first | omega | (simp; done) | (simp; omega)) _ | refine Below.trans ?_ (Below.mono (by assumption) (by first | omega | (simp; done) | (simp; omega)))))).mono ?_); rintro e w1 ⟨rfl, hb1⟩; have hs1 := hb1.size; (try simp at hs1))) | (go_at_call 53; (refine (l1In_any _ _ _ _).mono ?_; rintro e w' ⟨rfl, rfl⟩)))
  go_ret
  exact ⟨by rw [HE.out]; rfl, (by repeat (first | exact Below.refl _ _ | assumption | refine Below.drew ?_ | refine below_drewN ?_ _ | refine Below.alloc ?_ (by first | omega | (simp; done) | (simp; omega)) _ | refine Below.setCell ?_ (by first | omega | (simp; done) | (simp; omega)) _ | refine Below.trans ?_ (Below.mono (by assumption) (by first | omega | (simp; done) | (simp; omega)))))⟩

theorem chHas_any (a : Option Addr) (cap : Nat) (l : List (Int × Int)) (hl : l.length ≤ 1048576) (hc : l.length ≤ cap) {w : World} (ha : PairsAt w a l) (i : Int) :
    Calls Try.prog 61 #[.slice a l.length cap, .int .i64 i] w fun e w' => e = .returned (.bool (plO l i)) ∧ Below w.heap.size w w' := by
  cases hv : chOk l
  · exact chHas_no a cap l hl hc ha i hv
  · exact chHas_yes a cap l hl hc ha i hv
set_option maxHeartbeats 1000000 in
theorem isPerf_any (a : Option Addr) (cap : Nat) (l : List (Int × Int)) (hl : l.length ≤ 1048576) (i : Int) (w : World) :
    Calls Try.prog 62 #[.slice a l.length cap, .int .i64 i] w fun e w' => e = .returned (.bool (hasP l i)) ∧ w = w' := by
  have v1 : IntKind.i64.wrap ((l.length : Int) - 1) = (l.length : Int) - 1 := IntWalk.i64_in _ (by omega)
  go_enter Try.func62, Try.ntmps62
  go_wp2_with (go_at_call 78; (refine (inRange_any _ _ _ _).mono ?_; rintro e w' ⟨rfl, rfl⟩))
  go_ret
  exact ⟨rfl, rfl⟩

set_option maxHeartbeats 1000000 in
theorem specSwap_no1 (a : Option Addr) (cap : Nat) (l : List (Int × Int)) (hl : l.length ≤ 1048576) (hc : l.length ≤ cap) {w : World} (ha : PairsAt w a l) (i k : Int) (h1 : plO l i = false) :
    Calls Try.prog 29 #[.slice a l.length cap, .int .i64 i, .int .i64 k] w fun e w' => e = .returned (.tuple #[.slice none 0 0, .bool (swO l i k)]) ∧ Below w.heap.size w w' := by
  have HI := Lib.hid (fun (W : World) (hb : Below w.heap.size w W) => chHas_any a cap l hl hc (ha.below hb) i)
  have HK := Lib.hid (fun (W : World) (hb : Below w.heap.size w W) => chHas_any a cap l hl hc (ha.below hb) k)
  have E0 : Hid (swO l i k = false) := Lib.hid (by show (plO l i && hasP l k) = false; rw [h1]; rfl)
  rw [h1] at HI
  clear h1
  rw [E0.out]
  go_enter Try.func29, Try.ntmps29
  go_wp2_with (first | (go_at_call 61; ((with_reducible refine (HI.out _ (by repeat (first | exact Below.refl _ _ | assumption | refine Below.drew ?_ | refine below_drewN ?_ _ | refine Below.alloc ?_ (by first | omega | (simp; done) | (simp; omega)) _ | refine Below.setCell ?_ (by first | omega | (simp; done) | (simp; omega)) _ | refine Below.trans ?_ (Below.mono (by assumption) (by first | omega | (simp; done) | (simp; omega)))))).mono ?_); rintro e w1 ⟨rfl, hb1⟩; have hs1 := hb1.size; (try simp at hs1))) | (go_at_call 61; ((with_reducible refine (HK.out _ (by repeat (first | exact Below.refl _ _ | assumption | refine Below.drew ?_ | refine below_drewN ?_ _ | refine Below.alloc ?_ (by first | omega | (simp; done) | (simp; omega)) _ | refine Below.setCell ?_ (by first | omega | (simp; done) | (simp; omega)) _ | refine Below.trans ?_ (Below.mono (by assumption) (by first | omega | (simp; done) | (simp; omega)))))).mono ?_); rintro e w1 ⟨rfl, hb1⟩; have hs1 := hb1.size; (try simp at hs1))))
  go_ret2
  exact ⟨rfl, (by repeat (first | exact Below.refl _ _ | assumption | refine Below.drew ?_ | refine below_drewN ?_ _ | refine Below.alloc ?_ (by first | omega | (simp; done) | (simp; omega)) _ | refine Below.setCell ?_ (by first | omega | (simp; done) | (simp; omega)) _ | refine Below.trans ?_ (Below.mono (by assumption) (by first | omega | (simp; done) | (simp; omega)))))⟩

set_option maxHeartbeats 1000000 in
theorem specSwap_no2 (a : Option Addr) (cap : Nat) (l : List (Int × Int)) (hl : l.length ≤ 1048576) (hc : l.length ≤ cap) {w : World} (ha : PairsAt w a l) (i k : Int) (h1 : plO l i = true) (h2 : plO l k = false) :
    Calls Try.prog 29 #[.slice a l.length cap, .int .i64 i, .int .i64 k] w fun e w' => e = .returned (.tuple #[.slice none 0 0, .bool (swO l i k)]) ∧ Below w.heap.size w w' := by
  have HI := Lib.hid (fun (W : World) (hb : Below w.heap.size w W) => chHas_any a cap l hl hc (ha.below hb) i)
  have HK := Lib.hid (fun (W : World) (hb : Below w.heap.size w W) => chHas_any a cap l hl hc (ha.below hb) k)
  have E0 : Hid (swO l i k = false) := Lib.hid (by show (plO l i && hasP l k) = false; rw [h1]; unfold plO at h1 h2; rw [Bool.and_eq_true] at h1; rw [h1.1] at h2; exact h2)
  rw [h1] at HI
  rw [h2] at HK
  clear h1 h2
  rw [E0.out]
  go_enter Try.func29, Try.ntmps29
  go_wp2_with (first | (go_at_call 61; ((with_reducible refine (HI.out _ (by repeat (first | exact Below.refl _ _ | assumption | refine Below.drew ?_ | refine below_drewN ?_ _ | refine Below.alloc ?_ (by first | omega | (simp; done) | (simp; omega)) _ | refine Below.setCell ?_ (by first | omega | (simp; done) | (simp; omega)) _ | refine Below.trans ?_ (Below.mono (by assumption) (by first | omega | (simp; done) | (simp; omega)))))).mono ?_); rintro e w1 ⟨rfl, hb1⟩; have hs1 := hb1.size; (try simp at hs1))) | (go_at_call 61; ((with_reducible refine (HK.out _ (by repeat (first | exact Below.refl _ _ | assumption | refine Below.drew ?_ | refine below_drewN ?_ _ | refine Below.alloc ?_ (by first | omega | (simp; done) | (simp; omega)) _ | refine Below.setCell ?_ (by first | omega | (simp; done) | (simp; omega)) _ | refine Below.trans ?_ (Below.mono (by assumption) (by first | omega | (simp; done) | (simp; omega)))))).mono ?_); rintro e w1 ⟨rfl, hb1⟩; have hs1 := hb1.size; (try simp at hs1))))
  go_ret2
  exact ⟨rfl, (by repeat (first | exact Below.refl _ _ | assumption | refine Below.drew ?_ | refine below_drewN ?_ _ | refine Below.alloc ?_ (by first | omega | (simp; done) | (simp; omega)) _ | refine Below.setCell ?_ (by first | omega | (simp; done) | (simp; omega)) _ | refine Below.trans ?_ (Below.mono (by assumption) (by first | omega | (simp; done) | (simp; omega)))))⟩

set_option maxRecDepth 100000 in
set_option maxHeartbeats 4000000 in
theorem specSwap_yes (a : Option Addr) (cap : Nat) (l : List (Int × Int)) (hl : l.length ≤ 1048576) (hc : l.length ≤ cap) {w : World} (ha : PairsAt w a l) (p q : Nat) (hv : chOk l = true) (hp : p < l.length) (hq : q < l.length) :
    Calls Try.prog 29 #[.slice a l.length cap, .int .i64 (p : Int), .int .i64 (q : Int)] w fun e w' => ∃ v, e = .returned (.tuple #[v, .bool true]) ∧ OwnPairs 41 w' w.heap.size v (swapL l p q) ∧ Below w.heap.size w w' := by
  have HI := Lib.hid (fun (W : World) (hb : Below w.heap.size w W) => chHas_any a cap l hl hc (ha.below hb) (p : Int))
  have HK := Lib.hid (fun (W : World) (hb : Below w.heap.size w W) => chHas_any a cap l hl hc (ha.below hb) (q : Int))
  have HO := Lib.hid (fun (W : World) (hb : Below w.heap.size w W) => chOwn_any a cap l (by omega) hl (ha.below hb))
  have E1 : plO l (p : Int) = true := (by show (chOk l && inB 0 (p : Int) ((l.length : Int) - 1)) = true; rw [hv]; simp [inB]; omega)
  have E2 : plO l (q : Int) = true := (by show (chOk l && inB 0 (q : Int) ((l.length : Int) - 1)) = true; rw [hv]; simp [inB]; omega)
  rw [E1] at HI
  rw [E2] at HK
  clear E1 E2
  obtain ⟨b, off, rfl⟩ := ha.some_of (by omega)
  have HA := Lib.hid ha
  have i0 : (0 : Int) ≤ (p : Int) := by omega
  have i1 : (p : Int) < (l.length : Int) := by omega
  have m0 : (0 : Int) ≤ (q : Int) := by omega
  have m1 : (q : Int) < (l.length : Int) := by omega
  clear hv ha
  go_enter Try.func29, Try.ntmps29
  go_upto_region 4 with (first | (go_at_call 61; ((with_reducible refine (HI.out _ (by repeat (first | exact Below.refl _ _ | assumption | refine Below.drew ?_ | refine below_drewN ?_ _ | refine Below.alloc ?_ (by first | omega | (simp; done) | (simp; omega)) _ | refine Below.setCell ?_ (by first | omega | (simp; done) | (simp; omega)) _ | refine Below.trans ?_ (Below.mono (by assumption) (by first | omega | (simp; done) | (simp; omega)))))).mono ?_); rintro e w1 ⟨rfl, hb1⟩; have hs1 := hb1.size; (try simp at hs1))) | (go_at_call 61; ((with_reducible refine (HK.out _ (by repeat (first | exact Below.refl _ _ | assumption | refine Below.drew ?_ | refine below_drewN ?_ _ | refine Below.alloc ?_ (by first | omega | (simp; done) | (simp; omega)) _ | refine Below.setCell ?_ (by first | omega | (simp; done) | (simp; omega)) _ | refine Below.trans ?_ (Below.mono (by assumption) (by first | omega | (simp; done) | (simp; omega)))))).mono ?_); rintro e w1 ⟨rfl, hb1⟩; have hs1 := hb1.size; (try simp at hs1))) | (go_at_call 54; ((with_reducible refine (HO.out _ (by repeat (first | exact Below.refl _ _ | assumption | refine Below.drew ?_ | refine below_drewN ?_ _ | refine Below.alloc ?_ (by first | omega | (simp; done) | (simp; omega)) _ | refine Below.setCell ?_ (by first | omega | (simp; done) | (simp; omega)) _ | refine Below.trans ?_ (Below.mono (by assumption) (by first | omega | (simp; done) | (simp; omega)))))).mono ?_); rintro e w3 ⟨v3, rfl, ho3, hb3⟩; have hs3 := hb3.size; (try simp at hs3))))
  have hB3 : Below w.heap.size w w3 := (by repeat (first | exact Below.refl _ _ | assumption | refine Below.drew ?_ | refine below_drewN ?_ _ | refine Below.alloc ?_ (by first | omega | (simp; done) | (simp; omega)) _ | refine Below.setCell ?_ (by first | omega | (simp; done) | (simp; omega)) _ | refine Below.trans ?_ (Below.mono (by assumption) (by first | omega | (simp; done) | (simp; omega)))))
  have ho := own_mono (b' := w.heap.size) ho3 (by first | omega | (simp; done) | (simp; omega))
  clear HI HK HO ho3 hb3
  rcases own_formP ho with ⟨rfl, e0⟩ | ⟨g, cap', rfl, hgb, hgl⟩
  · rw [e0] at hp; exact absurd hp (by simp)
  obtain ⟨b', off', hbb, c0, c1⟩ := (HA.out.below hB3) q hq
  simp only [Option.some.injEq, Addr.mk.injEq] at hbb
  obtain ⟨hx1, hx2, _⟩ := hbb
  subst hx1 hx2
  obtain ⟨d0, d1, f0, f1⟩ := own_at ho hp
  have HST := Lib.hid (own_setP ho p (sx l q) (sy l q))
  obtain ⟨b2, off2, hbb, hbw, _⟩ := HA.out p hp
  simp only [Option.some.injEq, Addr.mk.injEq] at hbb
  obtain ⟨hx1, hx2, _⟩ := hbb
  subst hx1 hx2
  have hbw' : b < w.heap.size := World.block_lt_of_cell? w _ hbw
  have n1 : ¬ b = g := by omega
  have n2 : ¬ g = b := by omega
  clear hbw ho
  go_upto_region 5 with fail
  obtain ⟨W4, hW4⟩ : ∃ W, W = (w3.setCell ⟨g, p * 2, none⟩ (.int .i64 (sx l q))).setCell ⟨g, p * 2 + 1, none⟩ (.int .i64 (sy l q)) := ⟨_, rfl⟩
  rw [← hW4] at HST ⊢
  have hB4 : Below w.heap.size w W4 := gb_below hB3 HST.out.2 hgb
  clear hW4 c0 c1 d0 d1 f0 f1 hB3
  obtain ⟨b', off', hbb, c0, c1⟩ := (HA.out.below hB4) p hp
  simp only [Option.some.injEq, Addr.mk.injEq] at hbb
  obtain ⟨hx1, hx2, _⟩ := hbb
  subst hx1 hx2
  obtain ⟨d0, d1, f0, f1⟩ := own_at HST.out.1 (i := q) (by simpa using hq)
  have HST2 := Lib.hid (own_setP HST.out.1 q (sx l p) (sy l p))
  have HST3 := Lib.hid (gb_below hB4 HST2.out.2 hgb)
  clear HST hB4
  go_wp2
  refine bodyPost_ret (v := .tuple #[.slice (some ⟨g, 0, none⟩) l.length cap', .bool true]) (by simp [results, Try.results29, go_sem, *]) rfl ⟨_, rfl, ?_, HST3.out⟩
  have h := HST2.out.1
  unfold OwnPairs swapL
  rw [List.length_set, List.length_set]
  exact h
theorem specSwap_any (a : Option Addr) (cap : Nat) (l : List (Int × Int)) (hl : l.length ≤ 1048576) (hc : l.length ≤ cap) {w : World} (ha : PairsAt w a l) (i k : Int) :
    Calls Try.prog 29 #[.slice a l.length cap, .int .i64 i, .int .i64 k] w fun e w' => ∃ v, e = .returned (.tuple #[v, .bool (swO l i k)]) ∧ OwnPairs 41 w' w.heap.size v (swL l i k) ∧ Below w.heap.size w w' := by
  cases hs : swO l i k
  · rw [swL_no hs, ← hs]
    cases h1 : plO l i
    · exact (specSwap_no1 a cap l hl hc ha i k h1).mono fun e w' ⟨he, hb⟩ => ⟨_, he, own_nil _ _ _, hb⟩
    · cases h2 : plO l k
      · exact (specSwap_no2 a cap l hl hc ha i k h1 h2).mono fun e w' ⟨he, hb⟩ => ⟨_, he, own_nil _ _ _, hb⟩
      · exfalso
        unfold swO at hs
        unfold plO at h1 h2
        rw [Bool.and_eq_true] at h1 h2
        rw [h1.1, h1.2, h2.2] at hs
        cases hs
  · rw [swL_yes hs]
    unfold swO at hs
    rw [Bool.and_eq_true, Bool.and_eq_true] at hs
    obtain ⟨p, rfl, hp⟩ := hasP_nat hs.1.2
    obtain ⟨q, rfl, hq⟩ := hasP_nat hs.2
    exact specSwap_yes a cap l hl hc ha p q hs.1.1 hp hq

set_option maxHeartbeats 1000000 in
theorem swapI_no1 (a : Option Addr) (cap : Nat) (l : List (Int × Int)) (hl : l.length ≤ 1048576) {w : World} (ha : PairsAt w a l) (i k : Int) (hv : chOk l = false) :
    Calls Try.prog 30 #[.slice a l.length cap, .int .i64 i, .int .i64 k] w fun e w' => e = .returned (.tuple #[.slice none 0 0, .bool (swO l i k)]) ∧ Below w.heap.size w w' := by
  have HG := Lib.hid (fun (W : World) (hb : Below w.heap.size w W) => isChart_any a cap l hl (ha.below hb))
  have HI := Lib.hid (fun W => isPerf_any a cap l hl i W)
  have HK := Lib.hid (fun W => isPerf_any a cap l hl k W)
  have E0 : Hid (swO l i k = false) := Lib.hid (by unfold swO; rw [hv]; rfl)
  rw [hv] at HG
  clear hv
  rw [E0.out]
  go_enter Try.func30, Try.ntmps30
  go_wp2_with (first | (go_at_call 17; ((with_reducible refine (HG.out _ (by repeat (first | exact Below.refl _ _ | assumption | refine Below.drew ?_ | refine below_drewN ?_ _ | refine Below.alloc ?_ (by first | omega | (simp; done) | (simp; omega)) _ | refine Below.setCell ?_ (by first | omega | (simp; done) | (simp; omega)) _ | refine Below.trans ?_ (Below.mono (by assumption) (by first | omega | (simp; done) | (simp; omega)))))).mono ?_); rintro e w1 ⟨rfl, hb1⟩; have hs1 := hb1.size; (try simp at hs1))) | (go_at_call 62; ((with_reducible refine (HI.out _).mono ?_); rintro e w' ⟨rfl, rfl⟩)) | (go_at_call 62; ((with_reducible refine (HK.out _).mono ?_); rintro e w' ⟨rfl, rfl⟩)))
  go_ret2
  exact ⟨rfl, (by repeat (first | exact Below.refl _ _ | assumption | refine Below.drew ?_ | refine below_drewN ?_ _ | refine Below.alloc ?_ (by first | omega | (simp; done) | (simp; omega)) _ | refine Below.setCell ?_ (by first | omega | (simp; done) | (simp; omega)) _ | refine Below.trans ?_ (Below.mono (by assumption) (by first | omega | (simp; done) | (simp; omega)))))⟩

set_option maxHeartbeats 1000000 in
theorem swapI_no2 (a : Option Addr) (cap : Nat) (l : List (Int × Int)) (hl : l.length ≤ 1048576) {w : World} (ha : PairsAt w a l) (i k : Int) (hv : chOk l = true) (h1 : hasP l i = false) :
    Calls Try.prog 30 #[.slice a l.length cap, .int .i64 i, .int .i64 k] w fun e w' => e = .returned (.tuple #[.slice none 0 0, .bool (swO l i k)]) ∧ Below w.heap.size w w' := by
  have HG := Lib.hid (fun (W : World) (hb : Below w.heap.size w W) => isChart_any a cap l hl (ha.below hb))
  have HI := Lib.hid (fun W => isPerf_any a cap l hl i W)
  have HK := Lib.hid (fun W => isPerf_any a cap l hl k W)
  have E0 : Hid (swO l i k = false) := Lib.hid (by unfold swO; rw [hv, h1]; rfl)
  rw [hv] at HG
  rw [h1] at HI
  clear h1 hv
  rw [E0.out]
  go_enter Try.func30, Try.ntmps30
  go_wp2_with (first | (go_at_call 17; ((with_reducible refine (HG.out _ (by repeat (first | exact Below.refl _ _ | assumption | refine Below.drew ?_ | refine below_drewN ?_ _ | refine Below.alloc ?_ (by first | omega | (simp; done) | (simp; omega)) _ | refine Below.setCell ?_ (by first | omega | (simp; done) | (simp; omega)) _ | refine Below.trans ?_ (Below.mono (by assumption) (by first | omega | (simp; done) | (simp; omega)))))).mono ?_); rintro e w1 ⟨rfl, hb1⟩; have hs1 := hb1.size; (try simp at hs1))) | (go_at_call 62; ((with_reducible refine (HI.out _).mono ?_); rintro e w' ⟨rfl, rfl⟩)) | (go_at_call 62; ((with_reducible refine (HK.out _).mono ?_); rintro e w' ⟨rfl, rfl⟩)))
  go_ret2
  exact ⟨rfl, (by repeat (first | exact Below.refl _ _ | assumption | refine Below.drew ?_ | refine below_drewN ?_ _ | refine Below.alloc ?_ (by first | omega | (simp; done) | (simp; omega)) _ | refine Below.setCell ?_ (by first | omega | (simp; done) | (simp; omega)) _ | refine Below.trans ?_ (Below.mono (by assumption) (by first | omega | (simp; done) | (simp; omega)))))⟩

set_option maxHeartbeats 1000000 in
theorem swapI_no3 (a : Option Addr) (cap : Nat) (l : List (Int × Int)) (hl : l.length ≤ 1048576) {w : World} (ha : PairsAt w a l) (i k : Int) (hv : chOk l = true) (h1 : hasP l i = true) (h2 : hasP l k = false) :
    Calls Try.prog 30 #[.slice a l.length cap, .int .i64 i, .int .i64 k] w fun e w' => e = .returned (.tuple #[.slice none 0 0, .bool (swO l i k)]) ∧ Below w.heap.size w w' := by
  have HG := Lib.hid (fun (W : World) (hb : Below w.heap.size w W) => isChart_any a cap l hl (ha.below hb))
  have HI := Lib.hid (fun W => isPerf_any a cap l hl i W)
  have HK := Lib.hid (fun W => isPerf_any a cap l hl k W)
  have E0 : Hid (swO l i k = false) := Lib.hid (by unfold swO; rw [hv, h1, h2]; rfl)
  rw [hv] at HG
  rw [h1] at HI
  rw [h2] at HK
  clear h1 h2 hv
  rw [E0.out]
  go_enter Try.func30, Try.ntmps30
  go_wp2_with (first | (go_at_call 17; ((with_reducible refine (HG.out _ (by repeat (first | exact Below.refl _ _ | assumption | refine Below.drew ?_ | refine below_drewN ?_ _ | refine Below.alloc ?_ (by first | omega | (simp; done) | (simp; omega)) _ | refine Below.setCell ?_ (by first | omega | (simp; done) | (simp; omega)) _ | refine Below.trans ?_ (Below.mono (by assumption) (by first | omega | (simp; done) | (simp; omega)))))).mono ?_); rintro e w1 ⟨rfl, hb1⟩; have hs1 := hb1.size; (try simp at hs1))) | (go_at_call 62; ((with_reducible refine (HI.out _).mono ?_); rintro e w' ⟨rfl, rfl⟩)) | (go_at_call 62; ((with_reducible refine (HK.out _).mono ?_); rintro e w' ⟨rfl, rfl⟩)))
  go_ret2
  exact ⟨rfl, (by repeat (first | exact Below.refl _ _ | assumption | refine Below.drew ?_ | refine below_drewN ?_ _ | refine Below.alloc ?_ (by first | omega | (simp; done) | (simp; omega)) _ | refine Below.setCell ?_ (by first | omega | (simp; done) | (simp; omega)) _ | refine Below.trans ?_ (Below.mono (by assumption) (by first | omega | (simp; done) | (simp; omega)))))⟩

set_option maxRecDepth 100000 in
set_option maxHeartbeats 4000000 in
theorem swapI_yes (a : Option Addr) (cap : Nat) (l : List (Int × Int)) (hl : l.length ≤ 1048576) {w : World} (ha : PairsAt w a l) (p q : Nat) (hv : chOk l = true) (hp : p < l.length) (hq : q < l.length) :
    Calls Try.prog 30 #[.slice a l.length cap, .int .i64 (p : Int), .int .i64 (q : Int)] w fun e w' => ∃ v, e = .returned (.tuple #[v, .bool true]) ∧ OwnPairs 41 w' w.heap.size v (swapL l p q) ∧ Below w.heap.size w w' := by
  have HG := Lib.hid (fun (W : World) (hb : Below w.heap.size w W) => isChart_any a cap l hl (ha.below hb))
  have HI := Lib.hid (fun W => isPerf_any a cap l hl (p : Int) W)
  have HK := Lib.hid (fun W => isPerf_any a cap l hl (q : Int) W)
  have HO := Lib.hid (fun (W : World) (hb : Below w.heap.size w W) => cloneS_any a cap l (by omega) hl (ha.below hb))
  have E1 : hasP l (p : Int) = true := (by show inB 0 (p : Int) ((l.length : Int) - 1) = true; simp [inB]; omega)
  have E2 : hasP l (q : Int) = true := (by show inB 0 (q : Int) ((l.length : Int) - 1) = true; simp [inB]; omega)
  rw [hv] at HG
  rw [E1] at HI
  rw [E2] at HK
  clear E1 E2
  obtain ⟨b, off, rfl⟩ := ha.some_of (by omega)
  have HA := Lib.hid ha
  have i0 : (0 : Int) ≤ (p : Int) := by omega
  have i1 : (p : Int) < (l.length : Int) := by omega
  have m0 : (0 : Int) ≤ (q : Int) := by omega
  have m1 : (q : Int) < (l.length : Int) := by omega
  clear hv ha
  go_enter Try.func30, Try.ntmps30
  go_upto_region 4 with (first | (go_at_call 17; ((with_reducible refine (HG.out _ (by repeat (first | exact Below.refl _ _ | assumption | refine Below.drew ?_ | refine below_drewN ?_ _ | refine Below.alloc ?_ (by first | omega | (simp; done) | (simp; omega)) _ | refine Below.setCell ?_ (by first | omega | (simp; done) | (simp; omega)) _ | refine Below.trans ?_ (Below.mono (by assumption) (by first | omega | (simp; done) | (simp; omega)))))).mono ?_); rintro e w1 ⟨rfl, hb1⟩; have hs1 := hb1.size; (try simp at hs1))) | (go_at_call 62; ((with_reducible refine (HI.out _).mono ?_); rintro e w' ⟨rfl, rfl⟩)) | (go_at_call 62; ((with_reducible refine (HK.out _).mono ?_); rintro e w' ⟨rfl, rfl⟩)) | (go_at_call 63; ((with_reducible refine (HO.out _ (by repeat (first | exact Below.refl _ _ | assumption | refine Below.drew ?_ | refine below_drewN ?_ _ | refine Below.alloc ?_ (by first | omega | (simp; done) | (simp; omega)) _ | refine Below.setCell ?_ (by first | omega | (simp; done) | (simp; omega)) _ | refine Below.trans ?_ (Below.mono (by assumption) (by first | omega | (simp; done) | (simp; omega)))))).mono ?_); rintro e w3 ⟨v3, rfl, ho3, hb3⟩; have hs3 := hb3.size; (try simp at hs3))))
  have hB3 : Below w.heap.size w w3 := (by repeat (first | exact Below.refl _ _ | assumption | refine Below.drew ?_ | refine below_drewN ?_ _ | refine Below.alloc ?_ (by first | omega | (simp; done) | (simp; omega)) _ | refine Below.setCell ?_ (by first | omega | (simp; done) | (simp; omega)) _ | refine Below.trans ?_ (Below.mono (by assumption) (by first | omega | (simp; done) | (simp; omega)))))
  have ho := own_mono (b' := w.heap.size) ho3 (by first | omega | (simp; done) | (simp; omega))
  clear HG HI HK HO ho3 hb3
  rcases own_formP ho with ⟨rfl, e0⟩ | ⟨g, cap', rfl, hgb, hgl⟩
  · rw [e0] at hp; exact absurd hp (by simp)
  obtain ⟨b', off', hbb, c0, c1⟩ := (HA.out.below hB3) q hq
  simp only [Option.some.injEq, Addr.mk.injEq] at hbb
  obtain ⟨hx1, hx2, _⟩ := hbb
  subst hx1 hx2
  obtain ⟨b', off', hbb, e0, e1⟩ := (HA.out.below hB3) p hp
  simp only [Option.some.injEq, Addr.mk.injEq] at hbb
  obtain ⟨hx1, hx2, _⟩ := hbb
  subst hx1 hx2
  obtain ⟨b2, off2, hbb, hbw, _⟩ := HA.out p hp
  simp only [Option.some.injEq, Addr.mk.injEq] at hbb
  obtain ⟨hx1, hx2, _⟩ := hbb
  subst hx1 hx2
  have hbw' : b < w.heap.size := World.block_lt_of_cell? w _ hbw
  have n1 : ¬ b = g := by omega
  have n2 : ¬ g = b := by omega
  obtain ⟨d0, d1, f0, f1⟩ := own_at ho hp
  obtain ⟨d2, d3, f2, f3⟩ := own_at ho hq
  have HOW := Lib.hid ho
  have HB3 := Lib.hid hB3
  clear hbw ho hB3
  by_cases hpq : p = q
  · obtain rfl : q = p := hpq.symm
    clear d2 d3 f2 f3
    go_region_held3 (fun w' => w'.cell? ⟨b, off + q * 2, none⟩ = some (.int .i64 (sx l q)) ∧ w'.cell? ⟨b, off + q * 2 + 1, none⟩ = some (.int .i64 (sy l q))) (refine ⟨?_, ?_⟩ <;> first | (go_keep; done) | (simp [*, World.cell?_alloc_past, World.cell?_setCell_far]; done) | (simp [*, World.cell?_alloc_past, World.cell?_alloc_at, World.cell?_setCell_far]; done) | (go_simp; done)) (fail)
    all_goals
      go_wp2
      refine bodyPost_ret (v := .tuple #[.slice (some ⟨g, 0, none⟩) l.length cap', .bool true]) (by simp [results, Try.results30, go_sem, *]) rfl ⟨_, rfl, ?_, ?_⟩
      · unfold OwnPairs swapL; rw [List.length_set, List.length_set]; exact (own_setP (own_setP HOW.out q (sx l q) (sy l q)).1 q (sx l q) (sy l q)).1
      · have hX := gb_below HB3.out (gb_trans (own_setP HOW.out q (sx l q) (sy l q)).2 (own_setP (own_setP HOW.out q (sx l q) (sy l q)).1 q (sx l q) (sy l q)).2) hgb
        first | exact hX | exact hX.drew | exact below_drewN hX _ | exact below_drewN hX.drew _ | exact (below_drewN hX _).drew | (trace_state; sorry)
  · have o1 : ¬ q = p := fun e => hpq e.symm
    have o2 : ¬ p * 2 = q * 2 := by omega
    have o3 : ¬ q * 2 = p * 2 := by omega
    have o4 : ¬ p * 2 + 1 = q * 2 := by omega
    have o5 : ¬ p * 2 = q * 2 + 1 := by omega
    have o6 : ¬ q * 2 + 1 = p * 2 := by omega
    have o7 : ¬ q * 2 = p * 2 + 1 := by omega
    go_region_held3 (fun w' => w'.cell? ⟨b, off + p * 2, none⟩ = some (.int .i64 (sx l p)) ∧ w'.cell? ⟨b, off + p * 2 + 1, none⟩ = some (.int .i64 (sy l p)) ∧ w'.cell? ⟨b, off + q * 2, none⟩ = some (.int .i64 (sx l q)) ∧ w'.cell? ⟨b, off + q * 2 + 1, none⟩ = some (.int .i64 (sy l q))) (refine ⟨?_, ?_, ?_, ?_⟩ <;> first | (go_keep; done) | (simp [*, World.cell?_alloc_past, World.cell?_setCell_far]; done) | (simp [*, World.cell?_alloc_past, World.cell?_alloc_at, World.cell?_setCell_far]; done) | (go_simp; done)) (fail)
    all_goals
      go_wp2
      refine bodyPost_ret (v := .tuple #[.slice (some ⟨g, 0, none⟩) l.length cap', .bool true]) (by simp [results, Try.results30, go_sem, *]) rfl ⟨_, rfl, ?_, ?_⟩
      · unfold OwnPairs swapL; rw [List.length_set, List.length_set]; exact (own_setP (own_setP HOW.out p (sx l q) (sy l q)).1 q (sx l p) (sy l p)).1
      · have hX := gb_below HB3.out (gb_trans (own_setP HOW.out p (sx l q) (sy l q)).2 (own_setP (own_setP HOW.out p (sx l q) (sy l q)).1 q (sx l p) (sy l p)).2) hgb
        first | exact hX | exact hX.drew | exact below_drewN hX _ | exact below_drewN hX.drew _ | exact (below_drewN hX _).drew | (trace_state; sorry)

theorem swapI_any (a : Option Addr) (cap : Nat) (l : List (Int × Int)) (hl : l.length ≤ 1048576) {w : World} (ha : PairsAt w a l) (i k : Int) :
    Calls Try.prog 30 #[.slice a l.length cap, .int .i64 i, .int .i64 k] w fun e w' => ∃ v, e = .returned (.tuple #[v, .bool (swO l i k)]) ∧ OwnPairs 41 w' w.heap.size v (swL l i k) ∧ Below w.heap.size w w' := by
  cases hs : swO l i k
  · rw [swL_no hs, ← hs]
    cases hv : chOk l
    · exact (swapI_no1 a cap l hl ha i k hv).mono fun e w' ⟨he, hb⟩ => ⟨_, he, own_nil _ _ _, hb⟩
    · cases h1 : hasP l i
      · exact (swapI_no2 a cap l hl ha i k hv h1).mono fun e w' ⟨he, hb⟩ => ⟨_, he, own_nil _ _ _, hb⟩
      · cases h2 : hasP l k
        · exact (swapI_no3 a cap l hl ha i k hv h1 h2).mono fun e w' ⟨he, hb⟩ => ⟨_, he, own_nil _ _ _, hb⟩
        · exfalso
          unfold swO at hs
          rw [hv, h1, h2] at hs
          cases hs
  · rw [swL_yes hs]
    unfold swO at hs
    rw [Bool.and_eq_true, Bool.and_eq_true] at hs
    obtain ⟨p, rfl, hp⟩ := hasP_nat hs.1.2
    obtain ⟨q, rfl, hq⟩ := hasP_nat hs.2
    exact swapI_yes a cap l hl ha p q hs.1.1 hp hq

end Go.Proofs.Ytfimjfchdaioeaa
