/- Repeated measures, the other side. No conditions but those written in each theorem. -/
import Derived.Test.YtbpphcdhbbhjpaaMuWith
import Derived.Deep.RegionHeld3
import Derived.Deep.DrawnRows
import Derived.IntWalk
import Derived.Laws.AppendOwn
namespace Go.Proofs.Ytbpphcdhbbhjpaa
open Go.RowKit


attribute [local go_sem ↓] Go.wp_at_zero Go.wp_at_succ

theorem PairsAt.part {w : World} {b off : Nat} {l : List (Int × Int)} (h : PairsAt w (some ⟨b, off, none⟩) l) (p n : Nat) (hp : p + n ≤ l.length) : PairsAt w (some ⟨b, off + p * 2, none⟩) ((l.drop p).take n) := by
  intro i hi
  have hi2 : i < n := by rw [List.length_take, List.length_drop] at hi; omega
  obtain ⟨b', off', e, h0, h1⟩ := h (p + i) (by omega)
  simp only [Option.some.injEq, Addr.mk.injEq] at e
  obtain ⟨rfl, rfl, _⟩ := e
  have eg : ((l.drop p).take n).getD i (0, 0) = l.getD (p + i) (0, 0) := by
    simp only [List.getD_eq_getElem?_getD]
    rw [List.getElem?_take_of_lt hi2, List.getElem?_drop]
  refine ⟨_, _, rfl, ?_, ?_⟩
  · rw [show off + p * 2 + i * 2 = off + (p + i) * 2 by omega]
    unfold sx; rw [eg]; exact h0
  · rw [show off + p * 2 + i * 2 + 1 = off + (p + i) * 2 + 1 by omega]
    unfold sy; rw [eg]; exact h1
/-- A list so often, one behind the other. -/
def repsL (l : List (Int × Int)) : Nat → List (Int × Int)
  | 0 => []
  | k + 1 => repsL l k ++ l
theorem repsL_length (l : List (Int × Int)) : ∀ k, (repsL l k).length = k * l.length
  | 0 => by simp [repsL]
  | k + 1 => by rw [repsL, List.length_append, repsL_length l k, Nat.succ_mul]
/-- The measures from p to q. -/
def partL (l : List (Int × Int)) (p q : Nat) : List (Int × Int) := (l.drop p).take (q + 1 - p)
/-- The music in which they come t times. -/
def repM (l : List (Int × Int)) (p q t : Nat) : List (Int × Int) := l.take p ++ repsL (partL l p q) t ++ l.drop (q + 1)
def okR (l : List (Int × Int)) (c d t : Int) : Bool := (musOk l && spanB c d ((l.length : Int) - 1)) && inB 1 t 10 && musOk (repM l c.toNat d.toNat t.toNat)
def repR (l : List (Int × Int)) (c d t : Int) : List (Int × Int) := if okR l c d t then repM l c.toNat d.toNat t.toNat else []
theorem repR_length (l : List (Int × Int)) (c d t : Int) : (repR l c d t).length ≤ 40 := by
  unfold repR
  cases h : okR l c d t
  · simp
  · unfold okR at h
    rw [Bool.and_eq_true] at h
    rw [if_pos rfl]
    exact (musOk_len h.2).2
theorem repR_no {l : List (Int × Int)} {c d t : Int} (h : okR l c d t = false) : repR l c d t = [] := by unfold repR; rw [h]; rfl
theorem repR_yes {l : List (Int × Int)} {c d t : Int} (h : okR l c d t = true) : repR l c d t = repM l c.toNat d.toNat t.toNat := by unfold repR; rw [if_pos h]

set_option maxHeartbeats 1000000 in
theorem specRep_no (a : Option Addr) (cap : Nat) (l : List (Int × Int)) (hl : l.length ≤ 1048576) {w : World} (ha : PairsAt w a l) (c d t : Int) (hk : ((musOk l && spanB c d ((l.length : Int) - 1)) && inB 1 t 10) = false) :
    Calls Try.prog 33 #[.slice a l.length cap, .int .i64 c, .int .i64 d, .int .i64 t] w fun e w' => e = .returned (.tuple #[.slice none 0 0, .bool false]) ∧ Below w.heap.size w w' := by
  have HG := Lib.hid (fun (W : World) (hb : Below w.heap.size w W) => muRange_any a cap l hl (ha.below hb) c d)
  cases h1 : (musOk l && spanB c d ((l.length : Int) - 1)) <;> cases h2 : inB 1 t 10
  all_goals first | (exfalso; rw [h1, h2] at hk; cases hk; done) | clear hk
  all_goals (rw [h1] at HG; clear h1)
  all_goals
    go_enter Try.func33, Try.ntmps33
    go_wp2_with (first | (go_at_call 57; (refine (HG.out _ (by repeat (first | exact Below.refl _ _ | assumption | refine Below.drew ?_ | refine below_drewN ?_ _ | refine Below.alloc ?_ (by first | omega | (simp; done) | (simp; omega)) _ | refine Below.setCell ?_ (by first | omega | (simp; done) | (simp; omega)) _ | refine Below.trans ?_ (Below.mono (by assumption) (by first | omega | (simp; done) | (simp; omega)))))).mono ?_; rintro e w1 ⟨rfl, hb1⟩; have hs1 := hb1.size)) | (go_at_call 53; (refine (l1In_any _ _ _ _).mono ?_; rintro e w' ⟨rfl, rfl⟩)))
    go_ret2
    exact ⟨rfl, (by repeat (first | exact Below.refl _ _ | assumption | refine Below.drew ?_ | refine below_drewN ?_ _ | refine Below.alloc ?_ (by first | omega | (simp; done) | (simp; omega)) _ | refine Below.setCell ?_ (by first | omega | (simp; done) | (simp; omega)) _ | refine Below.trans ?_ (Below.mono (by assumption) (by first | omega | (simp; done) | (simp; omega)))))⟩

set_option maxHeartbeats 4000000 in
theorem specRep_yes (a : Option Addr) (cap : Nat) (l : List (Int × Int)) (hm : musOk l = true) {w : World} (ha : PairsAt w a l) (hcap : l.length ≤ cap) (p q tn : Nat) (hpq : p ≤ q) (hq : q < l.length) (ht1 : 1 ≤ tn) (ht2 : tn ≤ 10) (bo : Bool) (hbo : bo = musOk (repM l p q tn)) (X : List (Int × Int)) (hX : X = if bo then repM l p q tn else []) :
    Calls Try.prog 33 #[.slice a l.length cap, .int .i64 p, .int .i64 q, .int .i64 tn] w fun e w' => ∃ v, e = .returned (.tuple #[v, .bool bo]) ∧ OwnPairs 46 w' w.heap.size v X ∧ Below w.heap.size w w' := by
  have HBO := Lib.hid hbo
  have HX := Lib.hid hX
  clear hbo hX
  have hl : l.length ≤ 1048576 := by have := (musOk_len hm).2; omega
  obtain ⟨b1, b2⟩ := musOk_len hm
  have hr0 := fun (W : World) (hb : Below w.heap.size w W) => muRange_any a cap l hl (ha.below hb) (p : Int) (q : Int)
  rw [hm, spanB_iff.2 (show 0 ≤ (p : Int) ∧ (p : Int) ≤ (q : Int) ∧ (q : Int) ≤ (l.length : Int) - 1 from ⟨by omega, by omega, by omega⟩)] at hr0
  have HG := Lib.hid hr0
  clear hr0 hm
  have htb : inB 1 (tn : Int) 10 = true := inB_iff.2 ⟨by omega, by omega⟩
  obtain ⟨b, off, rfl⟩ := ha.some_of b1
  obtain ⟨j0, hi, hz0, hz1, hz2⟩ := info_parts Try.infoMeasure
  have HI := Lib.hid hi
  have HZ0 := Lib.hid hz0
  have HZ1 := Lib.hid hz1
  have HZ2 := Lib.hid hz2
  clear hi hz0 hz1 hz2
  have HA := Lib.hid ha
  clear ha
  have i0 : (0 : Int) ≤ (p : Int) := by omega
  have i1 : (p : Int) ≤ (cap : Int) := by omega
  go_enter Try.func33, Try.ntmps33
  go_wp2_with (first | (go_at_call 57; (refine (HG.out _ (by repeat (first | exact Below.refl _ _ | assumption | refine Below.drew ?_ | refine below_drewN ?_ _ | refine Below.alloc ?_ (by first | omega | (simp; done) | (simp; omega)) _ | refine Below.setCell ?_ (by first | omega | (simp; done) | (simp; omega)) _ | refine Below.trans ?_ (Below.mono (by assumption) (by first | omega | (simp; done) | (simp; omega)))))).mono ?_; rintro e w1 ⟨rfl, hb1⟩; have hs1 := hb1.size)) | (go_at_call 53; (refine (l1In_any _ _ _ _).mono ?_; rintro e w' ⟨rfl, rfl⟩)) | (at_builtin; refine wpList_append_own _ rfl _ _ 25 rfl (w.heap.size) 46 j0 (.agg #[.int .i64 0, .int .i64 0]) 2 16 Try.underlying25 HI.out HZ0.out HZ1.out HZ2.out rfl (by decide) _ _ _ rfl (World.ownsRow_made w1 #[] 0 hs1 (Nat.zero_le _) (by simp)) ⟨b, off, none⟩ p cap (pairV (l.take p)) rfl ?c1 ?c2 ?c3 ?c4 ?c5 ?c6 ?_))
  case c1 => rw [pairV_length, List.length_take]; omega
  case c2 =>
    intro j u hj
    rw [Addr.add_lit]
    exact pairs_cells (l := l.take p) (by have := ((HA.out.below hb1).alloc (.cells #[] 46)).part 0 p (by omega); simpa using this) j u hj
  case c3 => exact pairV_one _
  case c4 => unfold maxLen; omega
  case c5 => omega
  case c6 => simp; omega
  intro v' w2 hown hgrow hnil
  have hown0 : OwnPairs 46 w2 w.heap.size v' (l.take p ++ repsL (partL l p q) 0) := by rw [repsL, List.append_nil, OwnPairs, List.length_take, Nat.min_eq_left (by omega)]; simpa using hown
  have hbw : Below w.heap.size w w2 := (hb1.alloc hs1 _).grown hgrow (by simp; omega) (by intro k hk; simp [Value.ownBlock] at hk; omega)
  have hs2 := hbw.size
  have HO0 := Lib.hid hown0
  clear hb1 hs1 hown hgrow hnil hown0
  have hpl : (partL l p q).length = q + 1 - p := by unfold partL; rw [List.length_take, List.length_drop]; omega
  have HPL := Lib.hid hpl
  clear hpl
  have j0' : (0 : Int) ≤ (q : Int) + 1 := by omega
  have j1 : (p : Int) ≤ (q : Int) + 1 := by omega
  have j2 : (q : Int) + 1 ≤ (cap : Int) := by omega
  have j3 : IntKind.i64.wrap ((q : Int) + 1) = (q : Int) + 1 := IntWalk.i64_in _ (by omega)
  go_wp2
  go_loopw [3, 10] (fun tv ov wr => ∃ (k : Nat) (vo : Value), k ≤ tn ∧ tv = .int .i64 ((tn - k : Nat) : Int) ∧ ov = vo ∧ OwnPairs 46 wr w.heap.size vo (l.take p ++ repsL (partL l p q) k) ∧ Below w.heap.size w wr) (fun tv _ _ => (intOf tv).toNat)
  case atStart => exact ⟨0, _, Nat.zero_le _, rfl, rfl, HO0.out, hbw⟩
  case round =>
    obtain ⟨k, vo, hk, rfl, hv, hown, hbr⟩ := hrel
    replace hv := hv.symm
    subst hv
    have hsr := hbr.size
    have hlx : (l.take p ++ repsL (partL l p q) k).length ≤ 440 := by
      rw [List.length_append, repsL_length, HPL.out, List.length_take]
      have : k * (q + 1 - p) ≤ 10 * 40 := Nat.mul_le_mul (by omega) (by omega)
      omega
    obtain ⟨acc, hacc⟩ : ∃ acc, acc = l.take p ++ repsL (partL l p q) k := ⟨_, rfl⟩
    rw [← hacc] at hown hlx
    have HOWN := Lib.hid hown
    have HAC := Lib.hid hacc
    clear hown hacc
    by_cases hlt : k < tn
    · have k0 : (0 : Int) < ((tn - k : Nat) : Int) := by omega
      have k1 : 0 < tn - k := by omega
      go_wp2_with (at_builtin; refine wpList_append_own _ rfl _ _ 25 rfl (w.heap.size) 46 j0 (.agg #[.int .i64 0, .int .i64 0]) 2 16 Try.underlying25 HI.out HZ0.out HZ1.out HZ2.out rfl (by decide) _ _ _ rfl HOWN.out ⟨b, off + p * 2, none⟩ (q + 1 - p) (cap - p) (pairV (partL l p q)) rfl ?d1 ?d2 ?d3 ?d4 ?d5 ?d6 ?_)
      case d1 => rw [pairV_length, HPL.out]
      case d2 =>
        intro j u hj
        rw [Addr.add_lit]
        exact pairs_cells ((HA.out.below hbr).part p (q + 1 - p) (by omega)) j u hj
      case d3 => exact pairV_one _
      case d4 => unfold maxLen; omega
      case d5 => omega
      case d6 => omega
      intro v5 w5 hown5 hgrow5 hnil5
      have hol := World.ownsRow.lt HOWN.out
      have hb5 : Below w.heap.size w w5 := hbr.grown hgrow5 (by omega) (fun x hx => (hol x hx).1)
      have hown6 : OwnPairs 46 w5 w.heap.size v5 (l.take p ++ repsL (partL l p q) (k + 1)) := by
        rw [repsL, ← List.append_assoc, ← HAC.out, OwnPairs, pairV_append, List.length_append, HPL.out]
        exact hown5
      have HO6 := Lib.hid hown6
      clear hown5 hgrow5 hnil5 hown6 hol
      have hs5 := hb5.size
      have v1 : IntKind.i64.wrap (((tn - k : Nat) : Int) - 1) = ((tn - (k + 1) : Nat) : Int) := by rw [IntWalk.i64_in _ (by omega)]; omega
      go_wp2
      go_roundw
      case rel => exact ⟨k + 1, _, by omega, rfl, rfl, HO6.out, hb5⟩
      case measure => simp [intOf]; omega
    · obtain rfl : k = tn := by omega
      have k0 : ¬ (0 : Int) < ((k - k : Nat) : Int) := by omega
      have k1 : ¬ 0 < k - k := by omega
      by_cases hqc : q + 1 = cap
      · have e1 : l.length = q + 1 := by omega
        have e2 : l.length - (q + 1) = 0 := by omega
        have hle : (q : Int) + 1 ≤ (l.length : Int) := by omega
        go_wp2_with (at_builtin; refine wpList_append_own _ rfl _ _ 25 rfl (w.heap.size) 46 j0 (.agg #[.int .i64 0, .int .i64 0]) 2 16 Try.underlying25 HI.out HZ0.out HZ1.out HZ2.out rfl (by decide) _ _ _ rfl HOWN.out ⟨b, off, none⟩ 0 0 [] rfl ?g1 ?g2 ?g3 ?g4 ?g5 ?g6 ?_)
        (try case g1 => rfl)
        (try case g2 => intro j u hj; simp at hj)
        (try case g3 => intro u hu; simp at hu)
        (try case g4 => unfold maxLen; omega)
        (try case g5 => omega)
        (try case g6 => omega)
        intro v5 w5 hown5 hgrow5 hnil5
        have hol := World.ownsRow.lt HOWN.out
        have hb5 : Below w.heap.size w w5 := hbr.grown hgrow5 (by omega) (fun x hx => (hol x hx).1)
        have hown6 : OwnPairs 46 w5 w.heap.size v5 (repM l p q k) := by
          have hd : l.drop (q + 1) = [] := List.drop_eq_nil_of_le (by omega)
          rw [repM, ← HAC.out, hd, List.append_nil]
          simpa [OwnPairs] using hown5
        have hrl : (repM l p q k).length ≤ 480 := by rw [repM, ← HAC.out, List.length_append, List.length_drop]; omega
        obtain ⟨rm, hrm⟩ : ∃ rm, rm = repM l p q k := ⟨_, rfl⟩
        rw [← hrm] at hown6 hrl
        have HRM := Lib.hid hrm
        obtain ⟨a7, cap7, rfl, I7, hA7⟩ := own_viewP hown6
        have HO6 := Lib.hid hown6
        have HGD := Lib.hid (fun (W : World) (hb : Below w5.heap.size w5 W) => muGood_any a7 cap7 rm (by omega) (I7.below hb))
        clear hown5 hgrow5 hnil5 hown6 hol hrm hA7 I7
        have hs5 := hb5.size
        cases hmr : musOk rm
        · rw [hmr] at HGD
          go_wp2_with (go_at_call 41; (refine (HGD.out _ (by repeat (first | exact Below.refl _ _ | assumption | refine Below.drew ?_ | refine below_drewN ?_ _ | refine Below.alloc ?_ (by first | omega | (simp; done) | (simp; omega)) _ | refine Below.setCell ?_ (by first | omega | (simp; done) | (simp; omega)) _ | refine Below.trans ?_ (Below.mono (by assumption) (by first | omega | (simp; done) | (simp; omega)))))).mono ?_); rintro e w7 ⟨rfl, hb7⟩; have hs7 := hb7.size)
          go_ret2
          exact ⟨_, by rw [HBO.out, ← HRM.out, hmr]; rfl, by rw [HX.out, HBO.out, ← HRM.out, hmr]; exact own_nil _ _ _, (by repeat (first | exact Below.refl _ _ | assumption | refine Below.drew ?_ | refine below_drewN ?_ _ | refine Below.alloc ?_ (by first | omega | (simp; done) | (simp; omega)) _ | refine Below.setCell ?_ (by first | omega | (simp; done) | (simp; omega)) _ | refine Below.trans ?_ (Below.mono (by assumption) (by first | omega | (simp; done) | (simp; omega)))))⟩
        · rw [hmr] at HGD
          go_wp2_with (go_at_call 41; (refine (HGD.out _ (by repeat (first | exact Below.refl _ _ | assumption | refine Below.drew ?_ | refine below_drewN ?_ _ | refine Below.alloc ?_ (by first | omega | (simp; done) | (simp; omega)) _ | refine Below.setCell ?_ (by first | omega | (simp; done) | (simp; omega)) _ | refine Below.trans ?_ (Below.mono (by assumption) (by first | omega | (simp; done) | (simp; omega)))))).mono ?_); rintro e w7 ⟨rfl, hb7⟩; have hs7 := hb7.size)
          go_ret2
          exact ⟨_, by rw [HBO.out, ← HRM.out, hmr]; rfl, by rw [HX.out, HBO.out, ← HRM.out, hmr]; exact own_below HO6.out hb7, (by repeat (first | exact Below.refl _ _ | assumption | refine Below.drew ?_ | refine below_drewN ?_ _ | refine Below.alloc ?_ (by first | omega | (simp; done) | (simp; omega)) _ | refine Below.setCell ?_ (by first | omega | (simp; done) | (simp; omega)) _ | refine Below.trans ?_ (Below.mono (by assumption) (by first | omega | (simp; done) | (simp; omega)))))⟩
      · have hle : (q : Int) + 1 ≤ (l.length : Int) := by omega
        have hlc : (q : Int) + 1 < (cap : Int) := by omega
        go_wp2_with (first | (at_builtin; refine wpList_append_own _ rfl _ _ 25 rfl (w.heap.size) 46 j0 (.agg #[.int .i64 0, .int .i64 0]) 2 16 Try.underlying25 HI.out HZ0.out HZ1.out HZ2.out rfl (by decide) _ _ _ rfl HOWN.out ⟨b, off + (q + 1) * 2, none⟩ (l.length - (q + 1)) (cap - (q + 1)) (pairV (l.drop (q + 1))) rfl ?f1 ?f2 ?f3 ?f4 ?f5 ?f6 ?_))
        case f1 => rw [pairV_length, List.length_drop]
        case f2 =>
          intro j u hj
          (first | rw [Addr.add_lit] | skip)
          exact pairs_cells (l := l.drop (q + 1)) (by have := (HA.out.below hbr).part (q + 1) (l.length - (q + 1)) (by omega); rwa [List.take_of_length_le (by rw [List.length_drop]; exact Nat.le_refl _)] at this) j u hj
        case f3 => exact pairV_one _
        case f4 => unfold maxLen; omega
        case f5 => omega
        (try case f6 => omega)
        intro v5 w5 hown5 hgrow5 hnil5
        have hol := World.ownsRow.lt HOWN.out
        have hb5 : Below w.heap.size w w5 := hbr.grown hgrow5 (by omega) (fun x hx => (hol x hx).1)
        have hown6 : OwnPairs 46 w5 w.heap.size v5 (repM l p q k) := by
          rw [repM, ← HAC.out, OwnPairs, pairV_append, List.length_append, List.length_drop]
          exact hown5
        have hrl : (repM l p q k).length ≤ 480 := by rw [repM, ← HAC.out, List.length_append, List.length_drop]; omega
        obtain ⟨rm, hrm⟩ : ∃ rm, rm = repM l p q k := ⟨_, rfl⟩
        rw [← hrm] at hown6 hrl
        have HRM := Lib.hid hrm
        obtain ⟨a7, cap7, rfl, I7, hA7⟩ := own_viewP hown6
        have HO6 := Lib.hid hown6
        have HGD := Lib.hid (fun (W : World) (hb : Below w5.heap.size w5 W) => muGood_any a7 cap7 rm (by omega) (I7.below hb))
        clear hown5 hgrow5 hnil5 hown6 hol hrm hA7 I7
        have hs5 := hb5.size
        cases hmr : musOk rm
        · rw [hmr] at HGD
          go_wp2_with (go_at_call 41; (refine (HGD.out _ (by repeat (first | exact Below.refl _ _ | assumption | refine Below.drew ?_ | refine below_drewN ?_ _ | refine Below.alloc ?_ (by first | omega | (simp; done) | (simp; omega)) _ | refine Below.setCell ?_ (by first | omega | (simp; done) | (simp; omega)) _ | refine Below.trans ?_ (Below.mono (by assumption) (by first | omega | (simp; done) | (simp; omega)))))).mono ?_); rintro e w7 ⟨rfl, hb7⟩; have hs7 := hb7.size)
          go_ret2
          exact ⟨_, by rw [HBO.out, ← HRM.out, hmr]; rfl, by rw [HX.out, HBO.out, ← HRM.out, hmr]; exact own_nil _ _ _, (by repeat (first | exact Below.refl _ _ | assumption | refine Below.drew ?_ | refine below_drewN ?_ _ | refine Below.alloc ?_ (by first | omega | (simp; done) | (simp; omega)) _ | refine Below.setCell ?_ (by first | omega | (simp; done) | (simp; omega)) _ | refine Below.trans ?_ (Below.mono (by assumption) (by first | omega | (simp; done) | (simp; omega)))))⟩
        · rw [hmr] at HGD
          go_wp2_with (go_at_call 41; (refine (HGD.out _ (by repeat (first | exact Below.refl _ _ | assumption | refine Below.drew ?_ | refine below_drewN ?_ _ | refine Below.alloc ?_ (by first | omega | (simp; done) | (simp; omega)) _ | refine Below.setCell ?_ (by first | omega | (simp; done) | (simp; omega)) _ | refine Below.trans ?_ (Below.mono (by assumption) (by first | omega | (simp; done) | (simp; omega)))))).mono ?_); rintro e w7 ⟨rfl, hb7⟩; have hs7 := hb7.size)
          go_ret2
          exact ⟨_, by rw [HBO.out, ← HRM.out, hmr]; rfl, by rw [HX.out, HBO.out, ← HRM.out, hmr]; exact own_below HO6.out hb7, (by repeat (first | exact Below.refl _ _ | assumption | refine Below.drew ?_ | refine below_drewN ?_ _ | refine Below.alloc ?_ (by first | omega | (simp; done) | (simp; omega)) _ | refine Below.setCell ?_ (by first | omega | (simp; done) | (simp; omega)) _ | refine Below.trans ?_ (Below.mono (by assumption) (by first | omega | (simp; done) | (simp; omega)))))⟩

theorem specRep_any (a : Option Addr) (cap : Nat) (l : List (Int × Int)) (hl : l.length ≤ 1048576) {w : World} (ha : PairsAt w a l) (hcap : l.length ≤ cap) (c d t : Int) :
    Calls Try.prog 33 #[.slice a l.length cap, .int .i64 c, .int .i64 d, .int .i64 t] w fun e w' => ∃ v, e = .returned (.tuple #[v, .bool (okR l c d t)]) ∧ OwnPairs 46 w' w.heap.size v (repR l c d t) ∧ Below w.heap.size w w' := by
  cases hg : (musOk l && spanB c d ((l.length : Int) - 1)) && inB 1 t 10
  · have hk : okR l c d t = false := by unfold okR; rw [hg]; rfl
    rw [repR_no hk, hk]
    exact (specRep_no a cap l hl ha c d t hg).mono fun e w' ⟨he, hb⟩ => ⟨_, he, own_nil _ _ _, hb⟩
  · have hg2 := hg
    rw [Bool.and_eq_true, Bool.and_eq_true] at hg2
    obtain ⟨⟨hm, hs⟩, ht⟩ := hg2
    obtain ⟨s1, s2, s3⟩ := spanB_iff.1 hs
    obtain ⟨t1, t2⟩ := inB_iff.1 ht
    have h := specRep_yes a cap l hm ha hcap c.toNat d.toNat t.toNat (by omega) (by omega) (by omega) (by omega) _ rfl _ rfl
    rw [Int.toNat_of_nonneg s1, Int.toNat_of_nonneg (by omega), Int.toNat_of_nonneg (by omega)] at h
    have hk : okR l c d t = musOk (repM l c.toNat d.toNat t.toNat) := by unfold okR; rw [hg]; rfl
    unfold repR
    rw [hk]
    exact h

end Go.Proofs.Ytbpphcdhbbhjpaa
