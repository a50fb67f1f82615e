/- Spots of a list that are all different: the program's way by a map. No conditions but those written in each theorem. -/
import Derived.Test.YtfimjfchdaioeaaDoorChMap
import Derived.Maps.OwnSet
import Derived.Maps.OwnOps
import Derived.Maps.Views
import Derived.Deep.RegionHeld3
import Derived.Deep.DrawnRows
import Derived.IntWalk
namespace Go.Proofs.YtfimjfchdaioeaaDoor
open Go.RowKit Go.Maps


attribute [local go_sem ↓] Go.wp_at_zero Go.wp_at_succ

/-- Are two spots of a list the same? -/
def same (l : List (Int × Int)) (i j : Nat) : Prop := sx l i = sx l j ∧ sy l i = sy l j
/-- The first k spots are all different. -/
def Diff (l : List (Int × Int)) (k : Nat) : Prop := ∀ i j, i < j → j < k → ¬ same l i j
/-- All spots different? -/
def diffP (l : List (Int × Int)) : Bool := decide l.Nodup
theorem sp_get {l : List (Int × Int)} {i : Nat} (h : i < l.length) : l[i] = (sx l i, sy l i) := by simp [sx, sy, List.getD_eq_getElem?_getD, List.getElem?_eq_getElem h]
theorem nodup_iff {l : List (Int × Int)} : l.Nodup ↔ Diff l l.length := by
  unfold List.Nodup
  rw [List.pairwise_iff_getElem]
  constructor
  · intro h i j hij hj hs
    have := h i j (by omega) hj hij
    rw [sp_get (by omega), sp_get hj, hs.1, hs.2] at this
    exact this rfl
  · intro h i j hi hj hij e
    rw [sp_get hi, sp_get hj] at e
    exact h i j hij hj ⟨congrArg Prod.fst e, congrArg Prod.snd e⟩
theorem diffP_yes {l : List (Int × Int)} (h : Diff l l.length) : diffP l = true := by unfold diffP; exact decide_eq_true (nodup_iff.2 h)
theorem diffP_no {l : List (Int × Int)} {i j : Nat} (h : same l i j) (hij : i < j) (hj : j < l.length) : diffP l = false := by
  unfold diffP
  exact decide_eq_false (fun hn => nodup_iff.1 hn i j hij hj h)
theorem diffP_at {l : List (Int × Int)} (h : diffP l = true) : Diff l l.length := by
  unfold diffP at h
  exact nodup_iff.1 (of_decide_eq_true h)
theorem diff_step {l : List (Int × Int)} {k : Nat} (h : Diff l k) (hn : ∀ j, j < k → ¬ same l j k) : Diff l (k + 1) := by
  intro i j hij hj hs
  by_cases e : j = k
  · subst e; exact hn i hij hs
  · exact h i j hij (by omega) hs
/-- What the map says of a spot. -/
def atS (D : DataW Unit) (l : List (Int × Int)) (i : Nat) : DataW Unit := D.atKey (kyl (sx l i) (sy l i)) (.lit (.bool false))
/-- The first k spots are in the map. -/
def Says1 (D : DataW Unit) (l : List (Int × Int)) (k : Nat) : Prop := IsMap D ∧ ∀ i, i < k → atS D l i = .lit (.bool true)
/-- All spots are in the map but those that are among the first k. -/
def Says2 (D : DataW Unit) (l : List (Int × Int)) (k : Nat) : Prop := IsMap D ∧ ∀ i, i < l.length → ((∀ j, j < k → ¬ same l j i) → atS D l i = .lit (.bool true)) ∧ (∀ j, j < k → same l j i → atS D l i = .lit (.bool false))
theorem kyl_ne {l : List (Int × Int)} (h : allOn l = true) {i j : Nat} (hi : i < l.length) (hj : j < l.length) (hs : ¬ same l i j) : kyl (sx l i) (sy l i) ≠ kyl (sx l j) (sy l j) := by
  intro e
  obtain ⟨a1, a2⟩ := wf_on (allOn_at h i hi)
  obtain ⟨b1, b2⟩ := wf_on (allOn_at h j hj)
  exact hs (kyl_inj a1 a2 b1 b2 e)
theorem says1_start (l : List (Int × Int)) : Says1 (.map []) l 0 := ⟨isMap_empty, fun i h => absurd h (Nat.not_lt_zero i)⟩
theorem says1_step {D : DataW Unit} {l : List (Int × Int)} (h : allOn l = true) {k : Nat} (hk : k < l.length) (hs : Says1 D l k) : Says1 (D.put (kyl (sx l k) (sy l k)) (.lit (.bool true))) l (k + 1) := by
  refine ⟨hs.1.put _ _, fun i hi => ?_⟩
  unfold atS
  by_cases e : same l i k
  · rw [e.1, e.2, atKey_put_same hs.1 (kyl_key _ _)]
  · rw [atKey_put_other (kyl_ne h (by omega) hk e)]
    refine hs.2 i ?_
    by_cases e2 : i = k
    · subst e2; exact absurd ⟨rfl, rfl⟩ e
    · omega
theorem says2_start {D : DataW Unit} {l : List (Int × Int)} (hs : Says1 D l l.length) : Says2 D l 0 :=
  ⟨hs.1, fun i hi => ⟨fun _ => hs.2 i hi, fun j hj => absurd hj (Nat.not_lt_zero j)⟩⟩
theorem says2_step {D : DataW Unit} {l : List (Int × Int)} (h : allOn l = true) {k : Nat} (hk : k < l.length) (hs : Says2 D l k) : Says2 (D.del (kyl (sx l k) (sy l k))) l (k + 1) := by
  refine ⟨hs.1.del _, fun i hi => ⟨fun hn => ?_, fun j hj hji => ?_⟩⟩
  · have hne := kyl_ne h hi hk (fun e => hn k (by omega) ⟨e.1.symm, e.2.symm⟩)
    unfold atS
    rw [atKey_del_other hne]
    exact (hs.2 i hi).1 (fun j hj => hn j (by omega))
  · unfold atS
    by_cases e : same l i k
    · rw [e.1, e.2, atKey_del_same]
    · rw [atKey_del_other (kyl_ne h hi hk e)]
      refine (hs.2 i hi).2 j ?_ hji
      by_cases e2 : j = k
      · subst e2; exact absurd ⟨hji.1.symm, hji.2.symm⟩ e
      · omega
/-- The map's block. -/
abbrev MapAt (w : World) (b n : Nat) (D : DataW Unit) : Prop := w.ownsMap Tryd.prog 33 (plainElem Tryd.prog 4) b n D
theorem plainElem_bool_inv {H : Type} {P : Program} {e : TypeId} (he : P.underlying e = some .bool) {v : Value} {z : DataW H × List MemPlace} (h : plainElem P e v = some z) : ∃ c, v = .bool c ∧ z = (.lit (.bool c), []) := by
  unfold plainElem at h
  rw [he] at h
  cases v <;> simp at h
  exact ⟨_, rfl, h.symm⟩
/-- A look-up in the map. -/
theorem wpList_lookup_spot (w : World) {ops : Array Oper} {rest : List Oper} {o : Oper} {a : Act} {Q : Exit → Act → World → Prop}
    (hg : o.guard = none) (m x : Operand) (hop : o.op = Op.lookup 53 m x false) (b n : Nat) (D : DataW Unit) (hm : a.eval m = .map (some b)) (hown : MapAt w b n D) (key : Value) (kl : Lit) (hx : a.eval x = key) (hkey : keyOf Tryd.prog 33 key = some kl)
    (c : Bool) (hat : D.atKey kl (.lit (.bool false)) = .lit (.bool c)) (hK : wpList Tryd.prog ops Q rest (a.put o.dst (.bool c)) w) :
    wpList Tryd.prog ops Q (o :: rest) a w := by
  refine wpList_plain hg fun K' hK' => ?_
  obtain ⟨v, ps, hrun, hv⟩ := hown.lookup spotKeyed Tryd.underlying53 (zeroBool _) (plainElem_bool Tryd.underlying4 false) hkey
  rw [hat] at hv
  obtain ⟨c', rfl, hc⟩ := plainElem_bool_inv Tryd.underlying4 hv
  simp only [Prod.mk.injEq, DataW.lit.injEq, Lit.bool.injEq] at hc
  obtain ⟨rfl, _⟩ := hc
  unfold Oper.wp
  simp [execOp, hop, hm, hx, hrun, Result.andThen]
  exact hK' _ _ hK

set_option maxHeartbeats 1000000 in
theorem allDiffer_any (a : Option Addr) (cap : Nat) (l : List (Int × Int)) (hl : l.length ≤ 40) (hon : allOn l = true) {w : World} (ha : PairsAt w a l) :
    Calls Tryd.prog 22 #[.slice a l.length cap] w fun e w' => e = .returned (.bool (diffP l)) ∧ Below w.heap.size w w' := by
  have hmm := @run_makeMap Tryd.prog
  have HON := Lib.hid hon
  have HA := Lib.hid ha
  clear hon ha
  go_enter Tryd.func22, Tryd.ntmps22
  go_wp2
  go_loopw [11] (fun i wr => ∃ (k : Nat) (D : DataW Unit), k ≤ l.length ∧ i = .int .i64 k ∧ Hid (MapAt wr w.heap.size k D) ∧ Hid (Says1 D l k) ∧ Below w.heap.size w wr ∧ w.heap.size < wr.heap.size) (fun i _ => l.length - (intOf i).toNat)
  case atStart => exact ⟨0, _, Nat.zero_le _, rfl, Lib.hid (World.ownsMap_made _ _ _ _), Lib.hid (says1_start l), (Below.refl _ _).alloc (Nat.le_refl _) _, by simp⟩
  case round =>
    obtain ⟨k, D, hk, rfl, HOWN, HSAY, hbr, hws⟩ := hrel
    clear hmm
    by_cases hlt : k < l.length
    · obtain ⟨b, off, rfl, c0, c1⟩ := (HA.out.below hbr) k hlt
      obtain ⟨wf1, wf2⟩ := wf_on (allOn_at HON.out k hlt)
      have hkey := keyOf_spot wf1 wf2
      clear wf1 wf2
      go_wp2_with (first | (at_mapUpdate; refine wpList_mapUpdate_own _ rfl _ _ _ 53 rfl 33 4 spotKeyed Tryd.underlying53 (plainElem Tryd.prog 4) w.heap.size k D rfl (HOWN.out.alloc _) (by unfold maxLen; omega) _ _ _ rfl rfl hkey (.lit (.bool true)) [] (plainElem_bool Tryd.underlying4 true) ?_; intro w2 hown2 hgrow2))
      have hs2 := hgrow2.size
      simp at hs2
      go_roundw
      case rel => exact ⟨k + 1, _, by omega, by go_num, Lib.hid hown2, Lib.hid (says1_step HON.out hlt HSAY.out), ((hbr.alloc (by omega) _).grown hgrow2 (by simp; omega) (fun j hj => by have := Option.some.inj hj; omega)), by omega⟩
      case measure => simp [intOf]; omega
    · obtain rfl : k = l.length := by omega
      go_wp2
      have HSAY2 := Lib.hid (says2_start HSAY.out)
      clear HSAY hlt hk
      go_loopw [20] (fun i wr => ∃ (k : Nat) (D : DataW Unit), k ≤ l.length ∧ i = .int .i64 k ∧ Hid (MapAt wr w.heap.size l.length D) ∧ Hid (Says2 D l k) ∧ Hid (Diff l k) ∧ Below w.heap.size w wr ∧ w.heap.size < wr.heap.size) (fun i _ => l.length - (intOf i).toNat)
      case atStart => exact ⟨0, _, Nat.zero_le _, rfl, HOWN, HSAY2, Lib.hid (fun i j _ hj => absurd hj (Nat.not_lt_zero j)), hbr, hws⟩
      case round =>
        clear HOWN HSAY2 hbr hws
        obtain ⟨k, D, hk, rfl, HOWN, HSAY, HDIF, hbr, hws⟩ := hrel
        by_cases hlt : k < l.length
        · obtain ⟨b, off, rfl, c0, c1⟩ := (HA.out.below hbr) k hlt
          obtain ⟨wf1, wf2⟩ := wf_on (allOn_at HON.out k hlt)
          have hkey := keyOf_spot wf1 wf2
          clear wf1 wf2
          by_cases hex : ∃ j, j < k ∧ same l j k
          · obtain ⟨j, hj, hjk⟩ := hex
            have hat := (HSAY.out.2 k hlt).2 j hj hjk
            have HAT := Lib.hid hat
            have HF := Lib.hid (diffP_no hjk hj hlt)
            clear hat hj hjk
            go_wp2_with (first | (at_lookup; refine wpList_lookup_spot _ rfl _ _ rfl w.heap.size l.length D rfl (HOWN.out.alloc _) _ _ rfl hkey false HAT.out ?_))
            go_ret
            exact ⟨by rw [HF.out]; rfl, (by repeat (first | exact Below.refl _ _ | assumption | refine Below.drew ?_ | refine below_drewN ?_ _ | refine Below.alloc ?_ (by first | omega | (simp; done) | (simp; omega)) _ | refine Below.setCell ?_ (by first | omega | (simp; done) | (simp; omega)) _ | refine Below.trans ?_ (Below.mono (by assumption) (by first | omega | (simp; done) | (simp; omega)))))⟩
          · have hno : ∀ j, j < k → ¬ same l j k := fun j hj h => hex ⟨j, hj, h⟩
            have HAT := Lib.hid ((HSAY.out.2 k hlt).1 hno)
            have HNO := Lib.hid hno
            clear hex hno
            go_wp2_with (first | (at_lookup; refine wpList_lookup_spot _ rfl _ _ rfl w.heap.size l.length D rfl (HOWN.out.alloc _) _ _ rfl hkey true HAT.out ?_) | (at_delete; refine wpList_delete_own _ rfl _ _ 53 33 rfl 4 spotKeyed Tryd.underlying53 (plainElem Tryd.prog 4) w.heap.size l.length D rfl (HOWN.out.alloc _) _ _ rfl hkey ?_; intro w2 hown2 hturn2))
            have hgrow2 := hturn2.grown
            have hs2 := hgrow2.size
            simp at hs2
            go_roundw
            case rel => exact ⟨k + 1, _, by omega, by go_num, Lib.hid hown2, Lib.hid (says2_step HON.out hlt HSAY.out), Lib.hid (diff_step HDIF.out HNO.out), ((hbr.alloc (by omega) _).grown hgrow2 (by simp; omega) (fun j hj => by have := Option.some.inj hj; omega)), by omega⟩
            case measure => simp [intOf]; omega
        · obtain rfl : k = l.length := by omega
          have HT := Lib.hid (diffP_yes HDIF.out)
          go_wp2
          go_ret
          exact ⟨by rw [HT.out]; rfl, (by repeat (first | exact Below.refl _ _ | assumption | refine Below.drew ?_ | refine below_drewN ?_ _ | refine Below.alloc ?_ (by first | omega | (simp; done) | (simp; omega)) _ | refine Below.setCell ?_ (by first | omega | (simp; done) | (simp; omega)) _ | refine Below.trans ?_ (Below.mono (by assumption) (by first | omega | (simp; done) | (simp; omega)))))⟩

end Go.Proofs.YtfimjfchdaioeaaDoor
