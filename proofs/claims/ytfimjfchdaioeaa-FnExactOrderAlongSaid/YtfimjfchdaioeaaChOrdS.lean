/- The order of a chart's performers, the specification's side. No conditions but those written in each theorem. -/
import Derived.Test.YtfimjfchdaioeaaChOrdI
import Derived.Deep.RegionHeld3
import Derived.Deep.DrawnRows
import Derived.IntWalk
import Derived.StillTailTactics
import Derived.Deep.DeepCutAuto
import Derived.Deep.OwnRows
import Derived.Deep.MidRow
import Derived.Laws.Rows
import Derived.Lib.LazyBuf
import Derived.Laws.AppendOwn
import Derived.Laws.AppendOwnNone
import Derived.Deep.AppendLies
import Derived.BigRegion
import Derived.Lib.QuietBelow
namespace Go.Proofs.Ytfimjfchdaioeaa
open Go.RowKit
open Go.Sort (grow)


attribute [local go_sem ↓] Go.wp_at_zero Go.wp_at_succ

theorem ints_cells {w : World} {b off : Nat} {xs : List Int} (h : ∀ i, i < xs.length → w.cell? ⟨b, off + i, none⟩ = some (.int .i64 (xs.getD i 0))) (j : Nat) (u : Value) (hj : (xs.map (Value.int .i64))[j]? = some u) : w.cell? ⟨b, off + j, none⟩ = some u := by
  have hlt : j < xs.length := by simpa using (List.getElem?_eq_some_iff.1 hj).1
  rw [h j hlt]
  rw [List.getElem?_map, List.getElem?_eq_getElem hlt] at hj
  rw [List.getD_eq_getElem?_getD, List.getElem?_eq_getElem hlt]
  simpa using hj
theorem ints_one (xs : List Int) : ∀ u ∈ xs.map (Value.int .i64), u.oneCell' = true := by
  intro u hu
  obtain ⟨x, _, rfl⟩ := List.mem_map.1 hu
  rfl
set_option maxHeartbeats 1000000 in
theorem l1Own_some (b off cap : Nat) (xs : List Int) (hl : xs.length ≤ 1048576) {w : World} (ha : ∀ i, i < xs.length → w.cell? ⟨b, off + i, none⟩ = some (.int .i64 (xs.getD i 0))) :
    Calls Try.prog 69 #[.slice (some ⟨b, off, none⟩) xs.length cap] w fun e w' => ∃ v, e = .returned v ∧ OwnInts w' w.heap.size v xs ∧ Below w.heap.size w w' := by
  obtain ⟨j0, hi, hz0, hz1, hz2⟩ := info_parts Try.infoInt
  have HI := Lib.hid hi
  have HZ0 := Lib.hid hz0
  have HZ1 := Lib.hid hz1
  have HZ2 := Lib.hid hz2
  clear hi hz0 hz1 hz2
  have HA := Lib.hid ha
  clear ha
  go_enter Try.func69, Try.ntmps69
  go_wp2_with (at_builtin; refine wpList_append_own _ rfl _ _ 44 rfl (w.heap.size) 3 j0 (.int .i64 0) 1 8 Try.underlying44 HI.out HZ0.out HZ1.out HZ2.out rfl (by decide) _ _ _ rfl (World.ownsRow_made w #[] 0 (Nat.le_refl _) (Nat.zero_le _) (by simp)) ⟨b, off, none⟩ xs.length cap (xs.map (Value.int .i64)) rfl ?c1 ?c2 ?c3 ?c4 ?c5 ?c6 ?_)
  case c1 => simp
  case c2 =>
    intro j u hj
    rw [Addr.add_lit]
    have h := ints_cells HA.out j u hj
    exact (World.cell?_alloc_past _ _ _ (World.block_lt_of_cell? _ _ h)).trans h
  case c3 => exact ints_one xs
  case c4 => unfold maxLen; omega
  case c5 => omega
  case c6 => simp
  intro v' w1 hown hgrow hnil
  have Hown := Lib.hid hown
  have Hgrow := Lib.hid hgrow
  clear hnil hown hgrow
  go_wp2
  go_ret
  refine ⟨v', rfl, by simpa [OwnInts] using Hown.out, ?_⟩
  exact ((Below.refl _ w).alloc (Nat.le_refl _) _).grown Hgrow.out (by simp) (by intro k hk; simp [Value.ownBlock] at hk; omega)

set_option maxHeartbeats 1000000 in
theorem l1Own_none (w : World) :
    Calls Try.prog 69 #[.slice none 0 0] w fun e w' => ∃ v, e = .returned v ∧ OwnInts w' w.heap.size v [] ∧ Below w.heap.size w w' := by
  obtain ⟨j0, hi, hz0, hz1, hz2⟩ := info_parts Try.infoInt
  have HI := Lib.hid hi
  have HZ0 := Lib.hid hz0
  have HZ1 := Lib.hid hz1
  have HZ2 := Lib.hid hz2
  clear hi hz0 hz1 hz2
  go_enter Try.func69, Try.ntmps69
  go_wp2_with (at_builtin; refine wpList_append_own_none rfl _ _ 44 rfl (w.heap.size) 3 j0 1 Try.underlying44 HI.out _ _ _ rfl (World.ownsRow_made w #[] 0 (Nat.le_refl _) (Nat.zero_le _) (by simp)) rfl ?_)
  go_ret
  exact ⟨_, rfl, by simpa [OwnInts] using World.ownsRow_made (e := 3) (size := 1) w #[] 0 (Nat.le_refl _) (Nat.zero_le _) (by simp), (by repeat (first | exact Below.refl _ _ | assumption | refine Below.drew ?_ | refine below_drewN ?_ _ | refine Below.alloc ?_ (by first | omega | (simp; done) | (simp; omega)) _ | refine Below.setCell ?_ (by first | omega | (simp; done) | (simp; omega)) _ | refine Below.trans ?_ (Below.mono (by assumption) (by first | omega | (simp; done) | (simp; omega)))))⟩
theorem step_appI {ops : Array Oper} {o : Oper} {a : Act} {w : World} {K : Act → World → Prop} {Q : Exit → Act → World → Prop} {E : Prop} (hgd : o.guard = none) (s x : Operand)
    (ho : o.op = .call { callee := .builtin .append, args := #[s, x], argTypes := #[44, 44] })
    (base : Nat) (v : Value) (xs : List Int) (hs : a.eval s = v) (hown : OwnInts w base v xs) (ad : Addr) (m c : Nat) (ys : List Int) (hm : ys.length = m) (hx : a.eval x = .slice (some ad) m c)
    (hcells : ∀ j u, (ys.map (Value.int .i64))[j]? = some u → w.cell? (ad.add j) = some u) (hb : xs.length + m ≤ 1000000) (hbase : base ≤ w.heap.size)
    (h : ∀ v' w', OwnInts w' base v' (xs ++ ys) → w.grownBy w' v.ownBlock → K (a.put o.dst v') w') :
    if Region.wanted o (yielded ops a.tmps) = true then Oper.wp Try.prog o a w K Q else E := by
  obtain ⟨j0, hi, hz0, hz1, hz2⟩ := info_parts Try.infoInt
  have hw : Region.wanted o (yielded ops a.tmps) = true := by simp [Region.wanted, hgd]
  rw [if_pos hw]
  refine wp_append_own w s x 44 ho base 3 j0 (.int .i64 0) 1 8 Try.underlying44 hi hz0 hz1 hz2 rfl (by decide) v xs.length _ hs hown ad m c (ys.map (Value.int .i64)) hx (by simp [hm]) hcells (ints_one ys) (by unfold maxLen; omega) (by omega) hbase (fun v' w' h1 h2 _ => h v' w' ?_ h2)
  unfold OwnInts
  rw [List.length_append, List.map_append, hm]
  exact h1
theorem step_appN {ops : Array Oper} {o : Oper} {a : Act} {w : World} {K : Act → World → Prop} {Q : Exit → Act → World → Prop} {E : Prop} (hgd : o.guard = none) (s x : Operand)
    (ho : o.op = .call { callee := .builtin .append, args := #[s, x], argTypes := #[44, 44] })
    (base : Nat) (v : Value) (xs : List Int) (hs : a.eval s = v) (hown : OwnInts w base v xs) (hx : a.eval x = .slice none 0 0) (h : K (a.put o.dst v) w) :
    if Region.wanted o (yielded ops a.tmps) = true then Oper.wp Try.prog o a w K Q else E := by
  obtain ⟨j0, hi, hz0, hz1, hz2⟩ := info_parts Try.infoInt
  have hw : Region.wanted o (yielded ops a.tmps) = true := by simp [Region.wanted, hgd]
  have hrun := run_append_owned_none (P := Try.prog) (w := w) base 44 o.type 3 j0 1 Try.underlying44 hi v xs.length _ hown
  rw [if_pos hw]
  unfold Oper.wp
  simp [execOp, ho, resolve, invoke, builtin, hs, hx, hrun, Result.andThen]
  exact h
/-- A performer is put in behind the first k ones. -/
def insN (d : List Nat) (k i : Nat) : List Nat := d.take k ++ i :: d.drop k
theorem insN_perm {d : List Nat} {i : Nat} (h : d.Perm (List.range i)) (k : Nat) : (insN d k i).Perm (List.range (i + 1)) := by
  unfold insN
  rw [List.range_succ]
  refine List.perm_middle.trans ?_
  rw [List.take_append_drop]
  exact (h.cons i).trans (List.perm_append_singleton i (List.range i)).symm
theorem insN_sorted {l : List (Int × Int)} {d : List Nat} {i k : Nat} (hs : d.Pairwise (fun x y => ¬ ltP (pt l y) (pt l x))) (hk : k ≤ d.length) (hr : ∀ b, k ≤ b → b < d.length → ltP (pt l i) (pt l (eat d b))) (hl : k = 0 ∨ ¬ ltP (pt l i) (pt l (eat d (k - 1)))) :
    (insN d k i).Pairwise (fun x y => ¬ ltP (pt l y) (pt l x)) := by
  have hs' := hs
  rw [← List.take_append_drop k d, List.pairwise_append] at hs'
  obtain ⟨h1, h2, h3⟩ := hs'
  have hdr : ∀ y ∈ d.drop k, ltP (pt l i) (pt l y) := by
    intro y hy
    obtain ⟨j, hj, rfl⟩ := List.getElem_of_mem hy
    have hj' : k + j < d.length := by rw [List.length_drop] at hj; omega
    have := hr (k + j) (by omega) hj'
    unfold eat at this
    rw [List.getD_eq_getElem?_getD, List.getElem?_eq_getElem hj'] at this
    rw [List.getElem_drop]
    exact this
  have htk : ∀ x ∈ d.take k, ¬ ltP (pt l i) (pt l x) := by
    intro x hx
    obtain ⟨j, hj, rfl⟩ := List.getElem_of_mem hx
    have hj' : j < k ∧ j < d.length := by rw [List.length_take] at hj; omega
    rw [List.getElem_take]
    rcases hl with hl | hl
    · omega
    · have e : eat d (k - 1) = d[k - 1]'(by omega) := by unfold eat; rw [List.getD_eq_getElem?_getD, List.getElem?_eq_getElem (by omega)]; rfl
      rw [e] at hl
      by_cases ej : j = k - 1
      · subst ej; exact hl
      · exact ltP_ntrans hl (List.pairwise_iff_getElem.1 hs j (k - 1) (by omega) (by omega) (by omega))
  unfold insN
  rw [List.pairwise_append]
  refine ⟨h1, List.pairwise_cons.2 ⟨fun y hy => ltP_asymm (hdr y hy), h2⟩, fun x hx y hy => ?_⟩
  rcases List.mem_cons.1 hy with rfl | hy
  · exact htk x hx
  · exact h3 x hx y hy
theorem insN_ints (d : List Nat) (k i : Nat) : (ints d).take k ++ [(i : Int)] ++ (ints d).drop k = ints (insN d k i) := by
  unfold ints insN
  simp
theorem ints_app (d e : List Nat) : ints (d ++ e) = ints d ++ ints e := by unfold ints; rw [List.map_append]
theorem ints_take (d : List Nat) (k : Nat) : ints (d.take k) = (ints d).take k := by unfold ints; rw [List.map_take]
theorem ints_drop (d : List Nat) (k : Nat) : ints (d.drop k) = (ints d).drop k := by unfold ints; rw [List.map_drop]

set_option maxHeartbeats 1000000 in
theorem ordS_no (a : Option Addr) (cap : Nat) (l : List (Int × Int)) (hl : l.length ≤ 1048576) (hc : l.length ≤ cap) {w : World} (ha : PairsAt w a l) (hv : chOk l = false) :
    Calls Try.prog 41 #[.slice a l.length cap] w fun e w' => e = .returned (.tuple #[.slice none 0 0, .bool false]) ∧ Below w.heap.size w w' := by
  have HG := Lib.hid (fun (W : World) (hb : Below w.heap.size w W) => chGood_any a cap l hl hc (ha.below hb))
  rw [hv] at HG
  clear hv
  go_enter Try.func41, Try.ntmps41
  go_wp2_with (go_at_call 45; ((with_reducible refine (HG.out _ (by repeat (first | exact Below.refl _ _ | assumption | refine Below.drew ?_ | refine below_drewN ?_ _ | refine Below.alloc ?_ (by first | omega | (simp; done) | (simp; omega)) _ | refine Below.setCell ?_ (by first | omega | (simp; done) | (simp; omega)) _ | refine Below.trans ?_ (Below.mono (by assumption) (by first | omega | (simp; done) | (simp; omega)))))).mono ?_); rintro e w1 ⟨rfl, hb1⟩; have hs1 := hb1.size; (try simp at hs1)))
  go_ret2
  exact ⟨rfl, (by repeat (first | exact Below.refl _ _ | assumption | refine Below.drew ?_ | refine below_drewN ?_ _ | refine Below.alloc ?_ (by first | omega | (simp; done) | (simp; omega)) _ | refine Below.setCell ?_ (by first | omega | (simp; done) | (simp; omega)) _ | refine Below.trans ?_ (Below.mono (by assumption) (by first | omega | (simp; done) | (simp; omega)))))⟩
set_option maxRecDepth 100000 in
set_option maxHeartbeats 2000000 in
theorem ordS_yes (a : Option Addr) (cap : Nat) (l : List (Int × Int)) (hl : l.length ≤ 1048576) (hc : l.length ≤ cap) {w : World} (ha : PairsAt w a l) (hv : chOk l = true) :
    Calls Try.prog 41 #[.slice a l.length cap] w fun e w' => ∃ v, e = .returned (.tuple #[v, .bool true]) ∧ OwnInts w' w.heap.size v (ints (ordN l)) ∧ Below w.heap.size w w' := by
  obtain ⟨j0, hi, hz0, hz1, hz2⟩ := info_parts Try.infoInt
  have HI := Lib.hid hi
  have HZ0 := Lib.hid hz0
  have HZ1 := Lib.hid hz1
  have HZ2 := Lib.hid hz2
  clear hi hz0 hz1 hz2
  have HG := Lib.hid (fun (W : World) (hb : Below w.heap.size w W) => chGood_any a cap l hl hc (ha.below hb))
  rw [hv] at HG
  obtain ⟨k1, k2, k3, h12⟩ := chOk_parts hv
  have hnd : l.Nodup := by unfold diffP at k2; exact of_decide_eq_true k2
  have HND := Lib.hid hnd
  have HA := Lib.hid ha
  clear hv ha k1 k2 hnd
  go_enter Try.func41, Try.ntmps41
  go_wp2_with (go_at_call 45; ((with_reducible refine (HG.out _ (by repeat (first | exact Below.refl _ _ | assumption | refine Below.drew ?_ | refine below_drewN ?_ _ | refine Below.alloc ?_ (by first | omega | (simp; done) | (simp; omega)) _ | refine Below.setCell ?_ (by first | omega | (simp; done) | (simp; omega)) _ | refine Below.trans ?_ (Below.mono (by assumption) (by first | omega | (simp; done) | (simp; omega)))))).mono ?_); rintro e w1 ⟨rfl, hb1⟩; have hs1 := hb1.size; (try simp at hs1)))
  have hbw : Below w.heap.size w w1 := (by repeat (first | exact Below.refl _ _ | assumption | refine Below.drew ?_ | refine below_drewN ?_ _ | refine Below.alloc ?_ (by first | omega | (simp; done) | (simp; omega)) _ | refine Below.setCell ?_ (by first | omega | (simp; done) | (simp; omega)) _ | refine Below.trans ?_ (Below.mono (by assumption) (by first | omega | (simp; done) | (simp; omega)))))
  clear hb1 HG
  go_loopw [4, 13] (fun ov iv wr => ∃ (i : Nat) (vo : Value) (d : List Nat), i ≤ l.length ∧ iv = .int .i64 i ∧ ov = vo ∧ Hid (OwnInts wr w.heap.size vo (ints d)) ∧ Hid (d.Perm (List.range i) ∧ d.Pairwise (fun x y => ¬ ltP (pt l y) (pt l x))) ∧ Below w.heap.size w wr) (fun _ iv _ => l.length - (intOf iv).toNat)
  case atStart => exact ⟨0, _, [], Nat.zero_le _, rfl, rfl, Lib.hid (World.ownsRow_nil _ _ _ _), Lib.hid ⟨List.Perm.refl _, List.Pairwise.nil⟩, hbw⟩
  case round =>
    clear hbw
    obtain ⟨i, vo, d, hi, rfl, hvo, HOWN, HD, hbr⟩ := hrel
    replace hvo := hvo.symm
    subst hvo
    have hsr := hbr.size
    obtain ⟨wo, rfl⟩ : ∃ wo, wo = wr := ⟨_, rfl⟩
    have hdl : d.length = i := by have := HD.out.1.length_eq; rw [List.length_range] at this; exact this
    have HDL := Lib.hid hdl
    by_cases hlt : i < l.length
    · obtain ⟨b, off, rfl, e0, e1⟩ := (HA.out.below hbr) i hlt
      obtain ⟨X, hX⟩ : ∃ X, X = sx l i := ⟨_, rfl⟩
      obtain ⟨Y, hY⟩ : ∃ Y, Y = sy l i := ⟨_, rfl⟩
      rw [← hX] at e0
      rw [← hY] at e1
      have HPT : Hid (pt l i = (X, Y)) := Lib.hid (by rw [hX, hY]; rfl)
      clear hX hY
      rcases own_formI HOWN.out with ⟨rfl, ed⟩ | ⟨g, cap', rfl, hgb, hgl⟩
      · obtain rfl : d = [] := List.map_eq_nil_iff.1 ed
        clear ed hdl
        go_upto_region 7 with fail
        obtain ⟨W1, hW1⟩ : ∃ W, W = wo.alloc (.cells #[.int .i64 X, .int .i64 Y] 41) := ⟨_, rfl⟩
        have hbr1 : Below w.heap.size w W1 := by rw [hW1]; exact hbr.alloc hsr _
        rw [← hW1]
        clear hW1 e0 e1 hbr hsr HOWN
        go_wp2
        go_loopw [7] (fun kv wr => kv = .int .i64 0 ∧ Below W1.heap.size W1 wr) (fun kv _ => (intOf kv).toNat)
        case atStart => exact ⟨by go_num, Below.refl _ _⟩
        case round =>
          obtain ⟨rfl, hbi⟩ := hrel
          obtain ⟨wi, rfl⟩ : ∃ wi, wi = wr := ⟨_, rfl⟩
          go_upto_region 8 with fail
          go_big_region
          go_upto_region 10 with fail
          obtain ⟨V, hVV⟩ : ∃ V, V = wi.drew := ⟨_, rfl⟩
          have hWV : Below W1.heap.size W1 V := by rw [hVV]; exact hbi.drew
          rw [← hVV]
          clear hVV hbi
          have hwV : w.heap.size ≤ V.heap.size := by have := hbr1.size; have := hWV.size; omega
          have hBV : Below w.heap.size w V := hbr1.trans (hWV.mono hbr1.size)
          have HL1 := Lib.hid (fun (Z : World) (hb : Below V.heap.size V Z) => l1Own_none Z)
          have HD2 := Lib.hid (And.intro (insN_perm (d := []) (i := i) HD.out.1 0) (insN_sorted (l := l) (d := []) (i := i) (k := 0) List.Pairwise.nil (Nat.zero_le _) (fun b h1 h2 => absurd h2 (Nat.not_lt_zero b)) (.inl rfl)))
          clear hWV
          go_region_held3 (fun _ => True) (trivial) (first | (go_at_call 69; ((with_reducible refine (HL1.out _ (by repeat (first | exact Below.refl _ _ | assumption | refine Below.drew ?_ | refine below_drewN ?_ _ | refine Below.alloc ?_ (by first | omega | (simp; done) | (simp; omega)) _ | refine Below.setCell ?_ (by first | omega | (simp; done) | (simp; omega)) _ | refine Below.trans ?_ (Below.mono (by assumption) (by first | omega | (simp; done) | (simp; omega)))))).mono ?_); rintro e w3 ⟨v3, rfl, ho3, hb3⟩; have hs3 := hb3.size; (try simp at hs3); have hV3 : Below V.heap.size V w3 := (by repeat (first | exact Below.refl _ _ | assumption | refine Below.drew ?_ | refine below_drewN ?_ _ | refine Below.alloc ?_ (by first | omega | (simp; done) | (simp; omega)) _ | refine Below.setCell ?_ (by first | omega | (simp; done) | (simp; omega)) _ | refine Below.trans ?_ (Below.mono (by assumption) (by first | omega | (simp; done) | (simp; omega))))); have ho3' := own_mono (b' := V.heap.size) ho3 (by first | omega | (simp; done) | (simp; omega)))) | (refine step_appI rfl _ _ rfl V.heap.size v3 [] rfl (by first | exact ho3' | exact own_below ho3' ((Below.refl _ _).alloc (Nat.le_refl _) _)) _ 1 _ [(i : Int)] rfl rfl (by intro j u hj; match j, hj with | 0, hj => (simp at hj; subst hj; first | (simp [Addr.add]; done) | (rw [Addr.add_lit]; exact (hb3.cell (p := ⟨V.heap.size, 0, none⟩) (by simp)).trans (by go_simp)) | (simp only [Addr.add_lit, Nat.add_zero]; exact (hb3.cell (p := ⟨V.heap.size, 0, none⟩) (by simp)).trans (by go_simp)))) (by simp) (by first | omega | (simp; done) | (simp; omega)) ?_; intro v5 w5 ho5 hg5; have hz5 := hg5.size; (try simp at hz5)) | (refine step_appN rfl _ _ rfl V.heap.size v5 _ rfl ho5 rfl ?_))
          all_goals
            have hB5 : Below V.heap.size V w5 := Below.grown (by repeat (first | exact Below.refl _ _ | assumption | refine Below.drew ?_ | refine below_drewN ?_ _ | refine Below.alloc ?_ (by first | omega | (simp; done) | (simp; omega)) _ | refine Below.setCell ?_ (by first | omega | (simp; done) | (simp; omega)) _ | refine Below.trans ?_ (Below.mono (by assumption) (by first | omega | (simp; done) | (simp; omega))))) hg5 (by first | omega | (simp; done) | (simp; omega)) (fun q hq => (World.ownsRow.lt ho3' q hq).1)
            have HRES : Hid (OwnInts w5 w.heap.size v5 (ints (insN [] 0 i))) := Lib.hid (own_mono ho5 hwV)
            have hB8 : Below w.heap.size w w5 := hBV.trans (hB5.mono hwV)
            clear ho3 ho3' hb3 hV3 hg5 ho5 hB5 HL1 hBV
            go_wp2
            go_roundw
            case rel => exact ⟨i + 1, _, insN [] 0 i, by omega, by go_num, rfl, HRES, HD2, hB8⟩
            case measure => simp [intOf] <;> omega
      · have eln : (ints d).length = i := by rw [ints_length, hdl]
        rw [eln]
        have hon : OwnN wo w.heap.size g cap' i d := by
          have h := HOWN.out
          unfold OwnInts at h
          rw [eln] at h
          exact h
        have HON := Lib.hid hon
        clear eln hon HOWN hdl
        go_upto_region 7 with fail
        obtain ⟨W1, hW1⟩ : ∃ W, W = wo.alloc (.cells #[.int .i64 X, .int .i64 Y] 41) := ⟨_, rfl⟩
        have c0 : W1.cell? ⟨wo.heap.size, 0, none⟩ = some (.int .i64 X) := by rw [hW1]; go_simp
        have c1 : W1.cell? ⟨wo.heap.size, 1, none⟩ = some (.int .i64 Y) := by rw [hW1]; go_simp
        have hB1 : Below wo.heap.size wo W1 := by rw [hW1]; exact (Below.refl _ _).alloc (Nat.le_refl _) _
        have hzb : wo.heap.size < W1.heap.size := by rw [hW1]; simp
        have HON1 := Lib.hid (own_below HON.out hB1)
        have hbr1 : Below w.heap.size w W1 := hbr.trans (hB1.mono hsr)
        have hgl1 : g < W1.heap.size := by omega
        rw [← hW1]
        obtain ⟨B, hBB⟩ : ∃ z, z = wo.heap.size := ⟨_, rfl⟩
        rw [← hBB] at c0 c1 hzb
        rw [← hBB]
        clear hW1 e0 e1 HON hB1 hbr hsr hgl hBB
        go_wp2
        go_loopw [7] (fun kv wr => ∃ k : Nat, k ≤ i ∧ kv = .int .i64 (k : Int) ∧ Hid (∀ b, k ≤ b → b < i → ltP (pt l i) (pt l (eat d b))) ∧ Below W1.heap.size W1 wr) (fun kv _ => (intOf kv).toNat)
        case atStart => exact ⟨i, Nat.le_refl _, rfl, Lib.hid (fun b h1 h2 => by omega), Below.refl _ _⟩
        case round =>
          obtain ⟨k, hk, rfl, HIN, hbi⟩ := hrel
          obtain ⟨wi, rfl⟩ : ∃ wi, wi = wr := ⟨_, rfl⟩
          have hsi := hbi.size
          by_cases hk0 : k = 0
          · subst hk0
            rw [show ((0 : Nat) : Int) = 0 from rfl]
            have HSTOP : Hid (0 = 0 ∨ ¬ ltP (pt l i) (pt l (eat d (0 - 1)))) := Lib.hid (.inl rfl)
            go_upto_region 8 with fail
            go_big_region
            go_upto_region 10 with fail
            obtain ⟨V, hVV⟩ : ∃ V, V = wi.drew := ⟨_, rfl⟩
            have hWV : Below W1.heap.size W1 V := by rw [hVV]; exact hbi.drew
            rw [← hVV]
            clear hVV hbi hsi
            have honV := own_below HON1.out hWV
            have hgV : g < V.heap.size := Nat.lt_of_lt_of_le hgl1 hWV.size
            have hwV : w.heap.size ≤ V.heap.size := by have := hbr1.size; have := hWV.size; omega
            have hBV : Below w.heap.size w V := hbr1.trans (hWV.mono hbr1.size)
            have hcap : i ≤ cap' := by
              rcases honV.2 with ⟨e, _⟩ | ⟨g', cap'', cur, e, _, _, hn, _⟩
              · cases e
              · cases e; exact hn
            have hlI : (ints d).length = i := by rw [ints_length]; exact HDL.out
            have hlT : ((ints d).take (0)).length = 0 := by rw [List.length_take, hlI]; omega
            have HDR := Lib.hid (show ((ints d).drop (0)).length = i - (0) by rw [List.length_drop, hlI])
            have HLE := Lib.hid (show ((ints d).take (0) ++ [(i : Int)]).length + (i - (0)) ≤ 1000000 by rw [List.length_append, hlT]; simp; omega)
            have HTL := Lib.hid (show ((ints d).take (0)).length + 1 ≤ 1000000 by rw [hlT]; omega)
            have HCL := Lib.hid (fun j u (hj : (((ints d).drop (0)).map (Value.int .i64))[j]? = some u) => show V.cell? ⟨g, 0 + j, none⟩ = some u from by
              rw [List.map_drop, List.getElem?_drop] at hj
              have hlt9 := (List.getElem?_eq_some_iff.1 hj).1
              rw [List.length_map, hlI] at hlt9
              exact (World.ownsRow.cellAt honV (0 + j) (by omega)).trans hj)
            have hL1 := fun (Z : World) (hb : Below V.heap.size V Z) => l1Own_some g 0 cap' ((ints d).take (0)) (by rw [hlT]; omega) (w := Z) (fun j hj => by
              rw [hlT] at hj
              rw [Nat.zero_add]
              refine ((hb.cell (p := ⟨g, j, none⟩) hgV).trans ((World.ownsRow.cellAt honV j (by omega)).trans (ints_at (d := d) (by have := HDL.out; omega)))).trans ?_
              unfold ints eat
              rw [List.getD_eq_getElem?_getD, List.getD_eq_getElem?_getD, List.getElem?_take, if_pos hj, List.getElem?_map, List.getElem?_eq_getElem (by have := HDL.out; omega)]
              rfl)
            rw [hlT] at hL1
            have HL1 := Lib.hid hL1
            have HD2 := Lib.hid (And.intro (insN_perm HD.out.1 (0)) (insN_sorted HD.out.2 (by have := HDL.out; omega) (fun b h1 h2 => HIN.out b h1 (by have := HDL.out; omega)) HSTOP.out))
            have s0 : (0 : Int) ≤ (0 : Int) := by omega
            have s1 : (0 : Int) ≤ (cap' : Int) := by omega
            have s2 : (0 : Int) ≤ (i : Int) := by omega
            have s3 : 0 ≤ cap' := by omega
            have s4 : 0 ≤ i := by omega
            skip
            clear honV hlI hlT hL1 HIN HSTOP hWV
            go_region_held3 (fun _ => True) (trivial) (first | (go_at_call 69; ((with_reducible refine (HL1.out _ (by repeat (first | exact Below.refl _ _ | assumption | refine Below.drew ?_ | refine below_drewN ?_ _ | refine Below.alloc ?_ (by first | omega | (simp; done) | (simp; omega)) _ | refine Below.setCell ?_ (by first | omega | (simp; done) | (simp; omega)) _ | refine Below.trans ?_ (Below.mono (by assumption) (by first | omega | (simp; done) | (simp; omega)))))).mono ?_); rintro e w3 ⟨v3, rfl, ho3, hb3⟩; have hs3 := hb3.size; (try simp at hs3); have hV3 : Below V.heap.size V w3 := (by repeat (first | exact Below.refl _ _ | assumption | refine Below.drew ?_ | refine below_drewN ?_ _ | refine Below.alloc ?_ (by first | omega | (simp; done) | (simp; omega)) _ | refine Below.setCell ?_ (by first | omega | (simp; done) | (simp; omega)) _ | refine Below.trans ?_ (Below.mono (by assumption) (by first | omega | (simp; done) | (simp; omega))))); have ho3' := own_mono (b' := V.heap.size) ho3 (by first | omega | (simp; done) | (simp; omega)))) | (refine step_appI rfl _ _ rfl V.heap.size v3 ((ints d).take (0)) rfl (by first | exact ho3' | exact own_below ho3' ((Below.refl _ _).alloc (Nat.le_refl _) _)) _ 1 _ [(i : Int)] rfl rfl (by intro j u hj; match j, hj with | 0, hj => (simp at hj; subst hj; first | (simp [Addr.add]; done) | (rw [Addr.add_lit]; exact (hb3.cell (p := ⟨V.heap.size, 0, none⟩) (by simp)).trans (by go_simp)) | (simp only [Addr.add_lit, Nat.add_zero]; exact (hb3.cell (p := ⟨V.heap.size, 0, none⟩) (by simp)).trans (by go_simp)))) HTL.out (by first | omega | (simp; done) | (simp; omega)) ?_; intro v5 w5 ho5 hg5; have hz5 := hg5.size; (try simp at hz5)) | (refine step_appI rfl _ _ rfl V.heap.size v5 _ rfl ho5 _ (i - (0)) _ ((ints d).drop (0)) HDR.out rfl (by intro j u hj; rw [Addr.add_lit]; have hc := HCL.out j u hj; have hne : some g ≠ v3.ownBlock := (fun e => by have := (World.ownsRow.lt ho3' g e.symm).1; omega); exact hg5.cell (by first | exact (hV3.cell (p := ⟨g, _, none⟩) hgV).trans hc | exact (World.cell?_alloc_past _ _ _ (by show g < _; omega)).trans ((hV3.cell (p := ⟨g, _, none⟩) hgV).trans hc)) hne) HLE.out (by first | omega | (simp; done) | (simp; omega)) ?_; intro v7 w7 ho7 hg7))
            all_goals
              have hB5 : Below V.heap.size V w5 := Below.grown (by repeat (first | exact Below.refl _ _ | assumption | refine Below.drew ?_ | refine below_drewN ?_ _ | refine Below.alloc ?_ (by first | omega | (simp; done) | (simp; omega)) _ | refine Below.setCell ?_ (by first | omega | (simp; done) | (simp; omega)) _ | refine Below.trans ?_ (Below.mono (by assumption) (by first | omega | (simp; done) | (simp; omega))))) hg5 (by first | omega | (simp; done) | (simp; omega)) (fun q hq => (World.ownsRow.lt ho3' q hq).1)
              have hB7 : Below V.heap.size V w7 := Below.grown hB5 hg7 hB5.size (fun q hq => (World.ownsRow.lt ho5 q hq).1)
              skip
              rw [insN_ints] at ho7
              have HRES := Lib.hid (own_mono ho7 hwV)
              have hB8 : Below w.heap.size w w7 := hBV.trans (hB7.mono hwV)
              clear ho3 ho3' hb3 hV3 hg5 hg7 ho5 ho7 hB5 hB7 HCL HDR HLE HL1 hBV
              go_wp2
              go_roundw
              case rel => exact ⟨i + 1, _, insN d (0) i, by omega, by go_num, rfl, HRES, HD2, hB8⟩
              case measure => simp [intOf] <;> omega
          · obtain ⟨m, rfl⟩ : ∃ m, k = m + 1 := ⟨k - 1, by omega⟩
            rw [show ((m + 1 : Nat) : Int) = (m : Int) + 1 by omega]
            have vm1 : IntKind.i64.wrap ((m : Int) + 1 - 1) = (m : Int) := by rw [IntWalk.i64_in _ (by omega)]; omega
            have vm3 : IntKind.i64.wrap (m : Int) = (m : Int) := IntWalk.i64_in _ (by omega)
            have j0 : (0 : Int) < (m : Int) + 1 := by omega
            have m0 : (0 : Int) ≤ (m : Int) := by omega
            have m1 : (m : Int) < (i : Int) := by omega
            have hoi := own_below HON1.out hbi
            have hdl := HDL.out
            have e0 := (World.ownsRow.cellAt hoi m (by omega)).trans (ints_at (d := d) (by omega))
            have hN : eat d m < l.length := by
              have hm : eat d m ∈ d := by unfold eat; rw [List.getD_eq_getElem?_getD, List.getElem?_eq_getElem (by omega)]; exact List.getElem_mem _
              have := List.mem_range.1 ((HD.out.1.mem_iff).1 hm)
              omega
            obtain ⟨b', off', hbb, p0, p1⟩ := (HA.out.below (hbr1.trans (hbi.mono (by have := hbr1.size; omega)))) (eat d m) hN
            simp only [Option.some.injEq, Addr.mk.injEq] at hbb
            obtain ⟨hx1, hx2, _⟩ := hbb
            subst hx1 hx2
            have c2 := (hbi.cell (p := ⟨B, 0, none⟩) hzb).trans c0
            have c3 := (hbi.cell (p := ⟨B, 1, none⟩) hzb).trans c1
            have HLT : Hid (ltP (pt l i) (pt l (eat d m)) ↔ X < sx l (eat d m) ∨ (X = sx l (eat d m) ∧ Y < sy l (eat d m))) := Lib.hid (by rw [HPT.out]; exact Iff.rfl)
            obtain ⟨N, hNN⟩ : ∃ N, N = eat d m := ⟨_, rfl⟩
            have HEN := Lib.hid hNN
            rw [← hNN] at e0 hN p0 p1 HLT
            obtain ⟨XN, hXN⟩ : ∃ z, z = sx l N := ⟨_, rfl⟩
            obtain ⟨YN, hYN⟩ : ∃ z, z = sy l N := ⟨_, rfl⟩
            rw [← hXN] at p0 HLT
            rw [← hYN] at p1 HLT
            have N0 : (0 : Int) ≤ (N : Int) := by omega
            have N1 : (N : Int) < (l.length : Int) := by omega
            clear hNN hXN hYN hdl hoi
            rcases (show X < XN ∨ (XN = X ∧ Y < YN) ∨ XN < X ∨ (XN = X ∧ YN ≤ Y) by omega) with hc1 | ⟨hc1, hc2⟩ | hc1 | ⟨hc1, hc2⟩
            · have HL := Lib.hid (HLT.out.2 (.inl hc1))
              go_upto_region 8 with fail
              go_big_region
              clear e0 p0 p1 c2 c3 HLT
              have HIN2 : Hid (∀ b, m ≤ b → b < i → ltP (pt l i) (pt l (eat d b))) := Lib.hid (fun b h1 h2 => by
                by_cases e : b = m
                · rw [e, ← HEN.out]; exact HL.out
                · exact HIN.out b (by omega) h2)
              clear HIN HL
              go_wp2
              go_roundw
              case rel => exact ⟨m, by omega, by go_num, HIN2, hbi.drew⟩
              case measure => simp [intOf] <;> omega
            · have HL := Lib.hid (HLT.out.2 (.inr ⟨hc1.symm, hc2⟩))
              have u1 : (XN == X) = true := by simpa using hc1
              have u2 : ¬ X < XN := by omega
              clear hc1
              go_upto_region 8 with fail
              go_big_region
              clear e0 p0 p1 c2 c3 HLT
              have HIN2 : Hid (∀ b, m ≤ b → b < i → ltP (pt l i) (pt l (eat d b))) := Lib.hid (fun b h1 h2 => by
                by_cases e : b = m
                · rw [e, ← HEN.out]; exact HL.out
                · exact HIN.out b (by omega) h2)
              clear HIN HL
              go_wp2
              go_roundw
              case rel => exact ⟨m, by omega, by go_num, HIN2, hbi.drew⟩
              case measure => simp [intOf] <;> omega
            · have HL : Hid (¬ ltP (pt l i) (pt l N)) := Lib.hid (fun h => by have := HLT.out.1 h; omega)
              have u1 : (XN == X) = false := by
                have h9 : ¬ XN = X := by omega
                simpa using h9
              have u2 : ¬ X < XN := by omega
              go_upto_region 8 with fail
              go_big_region
              clear e0 p0 p1 c2 c3 HLT
              have HSTOP : Hid (m + 1 = 0 ∨ ¬ ltP (pt l i) (pt l (eat d (m + 1 - 1)))) := Lib.hid (.inr (by rw [Nat.add_sub_cancel, ← HEN.out]; exact HL.out))
              clear HL
              go_upto_region 10 with fail
              obtain ⟨V, hVV⟩ : ∃ V, V = wi.drew := ⟨_, rfl⟩
              have hWV : Below W1.heap.size W1 V := by rw [hVV]; exact hbi.drew
              rw [← hVV]
              clear hVV hbi hsi
              have hcap0 : i ≤ cap' := by
                rcases HON1.out.2 with ⟨e, _⟩ | ⟨g', cap'', cur, e, _, _, hn, _⟩
                · cases e
                · cases e; exact hn
              by_cases hcc : cap' = m + 1
              · subst hcc
                have honV := own_below HON1.out hWV
                have hgV : g < V.heap.size := Nat.lt_of_lt_of_le hgl1 hWV.size
                have hwV : w.heap.size ≤ V.heap.size := by have := hbr1.size; have := hWV.size; omega
                have hBV : Below w.heap.size w V := hbr1.trans (hWV.mono hbr1.size)
                have hcap : i ≤ (m + 1) := by
                  exact hcap0
                have hlI : (ints d).length = i := by rw [ints_length]; exact HDL.out
                have hlT : ((ints d).take (m + 1)).length = m + 1 := by rw [List.length_take, hlI]; omega
                have HDR := Lib.hid (show ((ints d).drop (m + 1)).length = i - (m + 1) by rw [List.length_drop, hlI])
                have HLE := Lib.hid (show ((ints d).take (m + 1) ++ [(i : Int)]).length + (i - (m + 1)) ≤ 1000000 by rw [List.length_append, hlT]; simp; omega)
                have HTL := Lib.hid (show ((ints d).take (m + 1)).length + 1 ≤ 1000000 by rw [hlT]; omega)
                have HCL := Lib.hid (fun j u (hj : (((ints d).drop (m + 1)).map (Value.int .i64))[j]? = some u) => show V.cell? ⟨g, m + 1 + j, none⟩ = some u from by
                  rw [List.map_drop, List.getElem?_drop] at hj
                  have hlt9 := (List.getElem?_eq_some_iff.1 hj).1
                  rw [List.length_map, hlI] at hlt9
                  exact (World.ownsRow.cellAt honV (m + 1 + j) (by omega)).trans hj)
                have hL1 := fun (Z : World) (hb : Below V.heap.size V Z) => l1Own_some g 0 (m + 1) ((ints d).take (m + 1)) (by rw [hlT]; omega) (w := Z) (fun j hj => by
                  rw [hlT] at hj
                  rw [Nat.zero_add]
                  refine ((hb.cell (p := ⟨g, j, none⟩) hgV).trans ((World.ownsRow.cellAt honV j (by omega)).trans (ints_at (d := d) (by have := HDL.out; omega)))).trans ?_
                  unfold ints eat
                  rw [List.getD_eq_getElem?_getD, List.getD_eq_getElem?_getD, List.getElem?_take, if_pos hj, List.getElem?_map, List.getElem?_eq_getElem (by have := HDL.out; omega)]
                  rfl)
                rw [hlT] at hL1
                have HL1 := Lib.hid hL1
                have HD2 := Lib.hid (And.intro (insN_perm HD.out.1 (m + 1)) (insN_sorted HD.out.2 (by have := HDL.out; omega) (fun b h1 h2 => HIN.out b h1 (by have := HDL.out; omega)) HSTOP.out))
                have s0 : (0 : Int) ≤ ((m : Int) + 1) := by omega
                have s1 : ((m : Int) + 1) ≤ ((m + 1) : Int) := by omega
                have s2 : ((m : Int) + 1) ≤ (i : Int) := by omega
                have s3 : m + 1 ≤ (m + 1) := by omega
                have s4 : m + 1 ≤ i := by omega
                have HNIL := Lib.hid (show (ints d).drop (m + 1) = [] from List.eq_nil_of_length_eq_zero (by rw [HDR.out]; omega))
                clear honV hlI hlT hL1 HIN HSTOP hWV
                go_region_held3 (fun _ => True) (trivial) (first | (go_at_call 69; ((with_reducible refine (HL1.out _ (by repeat (first | exact Below.refl _ _ | assumption | refine Below.drew ?_ | refine below_drewN ?_ _ | refine Below.alloc ?_ (by first | omega | (simp; done) | (simp; omega)) _ | refine Below.setCell ?_ (by first | omega | (simp; done) | (simp; omega)) _ | refine Below.trans ?_ (Below.mono (by assumption) (by first | omega | (simp; done) | (simp; omega)))))).mono ?_); rintro e w3 ⟨v3, rfl, ho3, hb3⟩; have hs3 := hb3.size; (try simp at hs3); have hV3 : Below V.heap.size V w3 := (by repeat (first | exact Below.refl _ _ | assumption | refine Below.drew ?_ | refine below_drewN ?_ _ | refine Below.alloc ?_ (by first | omega | (simp; done) | (simp; omega)) _ | refine Below.setCell ?_ (by first | omega | (simp; done) | (simp; omega)) _ | refine Below.trans ?_ (Below.mono (by assumption) (by first | omega | (simp; done) | (simp; omega))))); have ho3' := own_mono (b' := V.heap.size) ho3 (by first | omega | (simp; done) | (simp; omega)))) | (refine step_appI rfl _ _ rfl V.heap.size v3 ((ints d).take (m + 1)) rfl (by first | exact ho3' | exact own_below ho3' ((Below.refl _ _).alloc (Nat.le_refl _) _)) _ 1 _ [(i : Int)] rfl rfl (by intro j u hj; match j, hj with | 0, hj => (simp at hj; subst hj; first | (simp [Addr.add]; done) | (rw [Addr.add_lit]; exact (hb3.cell (p := ⟨V.heap.size, 0, none⟩) (by simp)).trans (by go_simp)) | (simp only [Addr.add_lit, Nat.add_zero]; exact (hb3.cell (p := ⟨V.heap.size, 0, none⟩) (by simp)).trans (by go_simp)))) HTL.out (by first | omega | (simp; done) | (simp; omega)) ?_; intro v5 w5 ho5 hg5; have hz5 := hg5.size; (try simp at hz5)) | (refine step_appI rfl _ _ rfl V.heap.size v5 _ rfl ho5 _ 0 _ [] rfl rfl (by intro j u hj; simp at hj) (by have := HLE.out; omega) (by first | omega | (simp; done) | (simp; omega)) ?_; intro v7 w7 ho7 hg7))
                all_goals
                  have hB5 : Below V.heap.size V w5 := Below.grown (by repeat (first | exact Below.refl _ _ | assumption | refine Below.drew ?_ | refine below_drewN ?_ _ | refine Below.alloc ?_ (by first | omega | (simp; done) | (simp; omega)) _ | refine Below.setCell ?_ (by first | omega | (simp; done) | (simp; omega)) _ | refine Below.trans ?_ (Below.mono (by assumption) (by first | omega | (simp; done) | (simp; omega))))) hg5 (by first | omega | (simp; done) | (simp; omega)) (fun q hq => (World.ownsRow.lt ho3' q hq).1)
                  have hB7 : Below V.heap.size V w7 := Below.grown hB5 hg7 hB5.size (fun q hq => (World.ownsRow.lt ho5 q hq).1)
                  replace ho7 : OwnInts w7 V.heap.size v7 ((ints d).take (m + 1) ++ [(i : Int)] ++ (ints d).drop (m + 1)) := by rw [HNIL.out]; exact ho7
                  rw [insN_ints] at ho7
                  have HRES := Lib.hid (own_mono ho7 hwV)
                  have hB8 : Below w.heap.size w w7 := hBV.trans (hB7.mono hwV)
                  clear ho3 ho3' hb3 hV3 hg5 hg7 ho5 ho7 hB5 hB7 HCL HDR HLE HL1 hBV
                  go_wp2
                  go_roundw
                  case rel => exact ⟨i + 1, _, insN d (m + 1) i, by omega, by go_num, rfl, HRES, HD2, hB8⟩
                  case measure => simp [intOf] <;> omega
              · have hcd : ¬ m + 1 = cap' := fun e => hcc e.symm
                have honV := own_below HON1.out hWV
                have hgV : g < V.heap.size := Nat.lt_of_lt_of_le hgl1 hWV.size
                have hwV : w.heap.size ≤ V.heap.size := by have := hbr1.size; have := hWV.size; omega
                have hBV : Below w.heap.size w V := hbr1.trans (hWV.mono hbr1.size)
                have hcap : i ≤ cap' := by
                  rcases honV.2 with ⟨e, _⟩ | ⟨g', cap'', cur, e, _, _, hn, _⟩
                  · cases e
                  · cases e; exact hn
                have hlI : (ints d).length = i := by rw [ints_length]; exact HDL.out
                have hlT : ((ints d).take (m + 1)).length = m + 1 := by rw [List.length_take, hlI]; omega
                have HDR := Lib.hid (show ((ints d).drop (m + 1)).length = i - (m + 1) by rw [List.length_drop, hlI])
                have HLE := Lib.hid (show ((ints d).take (m + 1) ++ [(i : Int)]).length + (i - (m + 1)) ≤ 1000000 by rw [List.length_append, hlT]; simp; omega)
                have HTL := Lib.hid (show ((ints d).take (m + 1)).length + 1 ≤ 1000000 by rw [hlT]; omega)
                have HCL := Lib.hid (fun j u (hj : (((ints d).drop (m + 1)).map (Value.int .i64))[j]? = some u) => show V.cell? ⟨g, m + 1 + j, none⟩ = some u from by
                  rw [List.map_drop, List.getElem?_drop] at hj
                  have hlt9 := (List.getElem?_eq_some_iff.1 hj).1
                  rw [List.length_map, hlI] at hlt9
                  exact (World.ownsRow.cellAt honV (m + 1 + j) (by omega)).trans hj)
                have hL1 := fun (Z : World) (hb : Below V.heap.size V Z) => l1Own_some g 0 cap' ((ints d).take (m + 1)) (by rw [hlT]; omega) (w := Z) (fun j hj => by
                  rw [hlT] at hj
                  rw [Nat.zero_add]
                  refine ((hb.cell (p := ⟨g, j, none⟩) hgV).trans ((World.ownsRow.cellAt honV j (by omega)).trans (ints_at (d := d) (by have := HDL.out; omega)))).trans ?_
                  unfold ints eat
                  rw [List.getD_eq_getElem?_getD, List.getD_eq_getElem?_getD, List.getElem?_take, if_pos hj, List.getElem?_map, List.getElem?_eq_getElem (by have := HDL.out; omega)]
                  rfl)
                rw [hlT] at hL1
                have HL1 := Lib.hid hL1
                have HD2 := Lib.hid (And.intro (insN_perm HD.out.1 (m + 1)) (insN_sorted HD.out.2 (by have := HDL.out; omega) (fun b h1 h2 => HIN.out b h1 (by have := HDL.out; omega)) HSTOP.out))
                have s0 : (0 : Int) ≤ ((m : Int) + 1) := by omega
                have s1 : ((m : Int) + 1) ≤ (cap' : Int) := by omega
                have s2 : ((m : Int) + 1) ≤ (i : Int) := by omega
                have s3 : m + 1 ≤ cap' := by omega
                have s4 : m + 1 ≤ i := by omega
                skip
                clear honV hlI hlT hL1 HIN HSTOP hWV
                go_region_held3 (fun _ => True) (trivial) (first | (go_at_call 69; ((with_reducible refine (HL1.out _ (by repeat (first | exact Below.refl _ _ | assumption | refine Below.drew ?_ | refine below_drewN ?_ _ | refine Below.alloc ?_ (by first | omega | (simp; done) | (simp; omega)) _ | refine Below.setCell ?_ (by first | omega | (simp; done) | (simp; omega)) _ | refine Below.trans ?_ (Below.mono (by assumption) (by first | omega | (simp; done) | (simp; omega)))))).mono ?_); rintro e w3 ⟨v3, rfl, ho3, hb3⟩; have hs3 := hb3.size; (try simp at hs3); have hV3 : Below V.heap.size V w3 := (by repeat (first | exact Below.refl _ _ | assumption | refine Below.drew ?_ | refine below_drewN ?_ _ | refine Below.alloc ?_ (by first | omega | (simp; done) | (simp; omega)) _ | refine Below.setCell ?_ (by first | omega | (simp; done) | (simp; omega)) _ | refine Below.trans ?_ (Below.mono (by assumption) (by first | omega | (simp; done) | (simp; omega))))); have ho3' := own_mono (b' := V.heap.size) ho3 (by first | omega | (simp; done) | (simp; omega)))) | (refine step_appI rfl _ _ rfl V.heap.size v3 ((ints d).take (m + 1)) rfl (by first | exact ho3' | exact own_below ho3' ((Below.refl _ _).alloc (Nat.le_refl _) _)) _ 1 _ [(i : Int)] rfl rfl (by intro j u hj; match j, hj with | 0, hj => (simp at hj; subst hj; first | (simp [Addr.add]; done) | (rw [Addr.add_lit]; exact (hb3.cell (p := ⟨V.heap.size, 0, none⟩) (by simp)).trans (by go_simp)) | (simp only [Addr.add_lit, Nat.add_zero]; exact (hb3.cell (p := ⟨V.heap.size, 0, none⟩) (by simp)).trans (by go_simp)))) HTL.out (by first | omega | (simp; done) | (simp; omega)) ?_; intro v5 w5 ho5 hg5; have hz5 := hg5.size; (try simp at hz5)) | (refine step_appI rfl _ _ rfl V.heap.size v5 _ rfl ho5 _ (i - (m + 1)) _ ((ints d).drop (m + 1)) HDR.out rfl (by intro j u hj; rw [Addr.add_lit]; have hc := HCL.out j u hj; have hne : some g ≠ v3.ownBlock := (fun e => by have := (World.ownsRow.lt ho3' g e.symm).1; omega); exact hg5.cell (by first | exact (hV3.cell (p := ⟨g, _, none⟩) hgV).trans hc | exact (World.cell?_alloc_past _ _ _ (by show g < _; omega)).trans ((hV3.cell (p := ⟨g, _, none⟩) hgV).trans hc)) hne) HLE.out (by first | omega | (simp; done) | (simp; omega)) ?_; intro v7 w7 ho7 hg7))
                all_goals
                  have hB5 : Below V.heap.size V w5 := Below.grown (by repeat (first | exact Below.refl _ _ | assumption | refine Below.drew ?_ | refine below_drewN ?_ _ | refine Below.alloc ?_ (by first | omega | (simp; done) | (simp; omega)) _ | refine Below.setCell ?_ (by first | omega | (simp; done) | (simp; omega)) _ | refine Below.trans ?_ (Below.mono (by assumption) (by first | omega | (simp; done) | (simp; omega))))) hg5 (by first | omega | (simp; done) | (simp; omega)) (fun q hq => (World.ownsRow.lt ho3' q hq).1)
                  have hB7 : Below V.heap.size V w7 := Below.grown hB5 hg7 hB5.size (fun q hq => (World.ownsRow.lt ho5 q hq).1)
                  skip
                  rw [insN_ints] at ho7
                  have HRES := Lib.hid (own_mono ho7 hwV)
                  have hB8 : Below w.heap.size w w7 := hBV.trans (hB7.mono hwV)
                  clear ho3 ho3' hb3 hV3 hg5 hg7 ho5 ho7 hB5 hB7 HCL HDR HLE HL1 hBV
                  go_wp2
                  go_roundw
                  case rel => exact ⟨i + 1, _, insN d (m + 1) i, by omega, by go_num, rfl, HRES, HD2, hB8⟩
                  case measure => simp [intOf] <;> omega
            · have HL : Hid (¬ ltP (pt l i) (pt l N)) := Lib.hid (fun h => by have := HLT.out.1 h; omega)
              have u1 : (XN == X) = true := by simpa using hc1
              have u2 : ¬ X < XN := by omega
              have u3 : ¬ Y < YN := by omega
              clear hc1 hc2
              go_upto_region 8 with fail
              go_big_region
              clear e0 p0 p1 c2 c3 HLT
              have HSTOP : Hid (m + 1 = 0 ∨ ¬ ltP (pt l i) (pt l (eat d (m + 1 - 1)))) := Lib.hid (.inr (by rw [Nat.add_sub_cancel, ← HEN.out]; exact HL.out))
              clear HL
              go_upto_region 10 with fail
              obtain ⟨V, hVV⟩ : ∃ V, V = wi.drew := ⟨_, rfl⟩
              have hWV : Below W1.heap.size W1 V := by rw [hVV]; exact hbi.drew
              rw [← hVV]
              clear hVV hbi hsi
              have hcap0 : i ≤ cap' := by
                rcases HON1.out.2 with ⟨e, _⟩ | ⟨g', cap'', cur, e, _, _, hn, _⟩
                · cases e
                · cases e; exact hn
              by_cases hcc : cap' = m + 1
              · subst hcc
                have honV := own_below HON1.out hWV
                have hgV : g < V.heap.size := Nat.lt_of_lt_of_le hgl1 hWV.size
                have hwV : w.heap.size ≤ V.heap.size := by have := hbr1.size; have := hWV.size; omega
                have hBV : Below w.heap.size w V := hbr1.trans (hWV.mono hbr1.size)
                have hcap : i ≤ (m + 1) := by
                  exact hcap0
                have hlI : (ints d).length = i := by rw [ints_length]; exact HDL.out
                have hlT : ((ints d).take (m + 1)).length = m + 1 := by rw [List.length_take, hlI]; omega
                have HDR := Lib.hid (show ((ints d).drop (m + 1)).length = i - (m + 1) by rw [List.length_drop, hlI])
                have HLE := Lib.hid (show ((ints d).take (m + 1) ++ [(i : Int)]).length + (i - (m + 1)) ≤ 1000000 by rw [List.length_append, hlT]; simp; omega)
                have HTL := Lib.hid (show ((ints d).take (m + 1)).length + 1 ≤ 1000000 by rw [hlT]; omega)
                have HCL := Lib.hid (fun j u (hj : (((ints d).drop (m + 1)).map (Value.int .i64))[j]? = some u) => show V.cell? ⟨g, m + 1 + j, none⟩ = some u from by
                  rw [List.map_drop, List.getElem?_drop] at hj
                  have hlt9 := (List.getElem?_eq_some_iff.1 hj).1
                  rw [List.length_map, hlI] at hlt9
                  exact (World.ownsRow.cellAt honV (m + 1 + j) (by omega)).trans hj)
                have hL1 := fun (Z : World) (hb : Below V.heap.size V Z) => l1Own_some g 0 (m + 1) ((ints d).take (m + 1)) (by rw [hlT]; omega) (w := Z) (fun j hj => by
                  rw [hlT] at hj
                  rw [Nat.zero_add]
                  refine ((hb.cell (p := ⟨g, j, none⟩) hgV).trans ((World.ownsRow.cellAt honV j (by omega)).trans (ints_at (d := d) (by have := HDL.out; omega)))).trans ?_
                  unfold ints eat
                  rw [List.getD_eq_getElem?_getD, List.getD_eq_getElem?_getD, List.getElem?_take, if_pos hj, List.getElem?_map, List.getElem?_eq_getElem (by have := HDL.out; omega)]
                  rfl)
                rw [hlT] at hL1
                have HL1 := Lib.hid hL1
                have HD2 := Lib.hid (And.intro (insN_perm HD.out.1 (m + 1)) (insN_sorted HD.out.2 (by have := HDL.out; omega) (fun b h1 h2 => HIN.out b h1 (by have := HDL.out; omega)) HSTOP.out))
                have s0 : (0 : Int) ≤ ((m : Int) + 1) := by omega
                have s1 : ((m : Int) + 1) ≤ ((m + 1) : Int) := by omega
                have s2 : ((m : Int) + 1) ≤ (i : Int) := by omega
                have s3 : m + 1 ≤ (m + 1) := by omega
                have s4 : m + 1 ≤ i := by omega
                have HNIL := Lib.hid (show (ints d).drop (m + 1) = [] from List.eq_nil_of_length_eq_zero (by rw [HDR.out]; omega))
                clear honV hlI hlT hL1 HIN HSTOP hWV
                go_region_held3 (fun _ => True) (trivial) (first | (go_at_call 69; ((with_reducible refine (HL1.out _ (by repeat (first | exact Below.refl _ _ | assumption | refine Below.drew ?_ | refine below_drewN ?_ _ | refine Below.alloc ?_ (by first | omega | (simp; done) | (simp; omega)) _ | refine Below.setCell ?_ (by first | omega | (simp; done) | (simp; omega)) _ | refine Below.trans ?_ (Below.mono (by assumption) (by first | omega | (simp; done) | (simp; omega)))))).mono ?_); rintro e w3 ⟨v3, rfl, ho3, hb3⟩; have hs3 := hb3.size; (try simp at hs3); have hV3 : Below V.heap.size V w3 := (by repeat (first | exact Below.refl _ _ | assumption | refine Below.drew ?_ | refine below_drewN ?_ _ | refine Below.alloc ?_ (by first | omega | (simp; done) | (simp; omega)) _ | refine Below.setCell ?_ (by first | omega | (simp; done) | (simp; omega)) _ | refine Below.trans ?_ (Below.mono (by assumption) (by first | omega | (simp; done) | (simp; omega))))); have ho3' := own_mono (b' := V.heap.size) ho3 (by first | omega | (simp; done) | (simp; omega)))) | (refine step_appI rfl _ _ rfl V.heap.size v3 ((ints d).take (m + 1)) rfl (by first | exact ho3' | exact own_below ho3' ((Below.refl _ _).alloc (Nat.le_refl _) _)) _ 1 _ [(i : Int)] rfl rfl (by intro j u hj; match j, hj with | 0, hj => (simp at hj; subst hj; first | (simp [Addr.add]; done) | (rw [Addr.add_lit]; exact (hb3.cell (p := ⟨V.heap.size, 0, none⟩) (by simp)).trans (by go_simp)) | (simp only [Addr.add_lit, Nat.add_zero]; exact (hb3.cell (p := ⟨V.heap.size, 0, none⟩) (by simp)).trans (by go_simp)))) HTL.out (by first | omega | (simp; done) | (simp; omega)) ?_; intro v5 w5 ho5 hg5; have hz5 := hg5.size; (try simp at hz5)) | (refine step_appI rfl _ _ rfl V.heap.size v5 _ rfl ho5 _ 0 _ [] rfl rfl (by intro j u hj; simp at hj) (by have := HLE.out; omega) (by first | omega | (simp; done) | (simp; omega)) ?_; intro v7 w7 ho7 hg7))
                all_goals
                  have hB5 : Below V.heap.size V w5 := Below.grown (by repeat (first | exact Below.refl _ _ | assumption | refine Below.drew ?_ | refine below_drewN ?_ _ | refine Below.alloc ?_ (by first | omega | (simp; done) | (simp; omega)) _ | refine Below.setCell ?_ (by first | omega | (simp; done) | (simp; omega)) _ | refine Below.trans ?_ (Below.mono (by assumption) (by first | omega | (simp; done) | (simp; omega))))) hg5 (by first | omega | (simp; done) | (simp; omega)) (fun q hq => (World.ownsRow.lt ho3' q hq).1)
                  have hB7 : Below V.heap.size V w7 := Below.grown hB5 hg7 hB5.size (fun q hq => (World.ownsRow.lt ho5 q hq).1)
                  replace ho7 : OwnInts w7 V.heap.size v7 ((ints d).take (m + 1) ++ [(i : Int)] ++ (ints d).drop (m + 1)) := by rw [HNIL.out]; exact ho7
                  rw [insN_ints] at ho7
                  have HRES := Lib.hid (own_mono ho7 hwV)
                  have hB8 : Below w.heap.size w w7 := hBV.trans (hB7.mono hwV)
                  clear ho3 ho3' hb3 hV3 hg5 hg7 ho5 ho7 hB5 hB7 HCL HDR HLE HL1 hBV
                  go_wp2
                  go_roundw
                  case rel => exact ⟨i + 1, _, insN d (m + 1) i, by omega, by go_num, rfl, HRES, HD2, hB8⟩
                  case measure => simp [intOf] <;> omega
              · have hcd : ¬ m + 1 = cap' := fun e => hcc e.symm
                have honV := own_below HON1.out hWV
                have hgV : g < V.heap.size := Nat.lt_of_lt_of_le hgl1 hWV.size
                have hwV : w.heap.size ≤ V.heap.size := by have := hbr1.size; have := hWV.size; omega
                have hBV : Below w.heap.size w V := hbr1.trans (hWV.mono hbr1.size)
                have hcap : i ≤ cap' := by
                  rcases honV.2 with ⟨e, _⟩ | ⟨g', cap'', cur, e, _, _, hn, _⟩
                  · cases e
                  · cases e; exact hn
                have hlI : (ints d).length = i := by rw [ints_length]; exact HDL.out
                have hlT : ((ints d).take (m + 1)).length = m + 1 := by rw [List.length_take, hlI]; omega
                have HDR := Lib.hid (show ((ints d).drop (m + 1)).length = i - (m + 1) by rw [List.length_drop, hlI])
                have HLE := Lib.hid (show ((ints d).take (m + 1) ++ [(i : Int)]).length + (i - (m + 1)) ≤ 1000000 by rw [List.length_append, hlT]; simp; omega)
                have HTL := Lib.hid (show ((ints d).take (m + 1)).length + 1 ≤ 1000000 by rw [hlT]; omega)
                have HCL := Lib.hid (fun j u (hj : (((ints d).drop (m + 1)).map (Value.int .i64))[j]? = some u) => show V.cell? ⟨g, m + 1 + j, none⟩ = some u from by
                  rw [List.map_drop, List.getElem?_drop] at hj
                  have hlt9 := (List.getElem?_eq_some_iff.1 hj).1
                  rw [List.length_map, hlI] at hlt9
                  exact (World.ownsRow.cellAt honV (m + 1 + j) (by omega)).trans hj)
                have hL1 := fun (Z : World) (hb : Below V.heap.size V Z) => l1Own_some g 0 cap' ((ints d).take (m + 1)) (by rw [hlT]; omega) (w := Z) (fun j hj => by
                  rw [hlT] at hj
                  rw [Nat.zero_add]
                  refine ((hb.cell (p := ⟨g, j, none⟩) hgV).trans ((World.ownsRow.cellAt honV j (by omega)).trans (ints_at (d := d) (by have := HDL.out; omega)))).trans ?_
                  unfold ints eat
                  rw [List.getD_eq_getElem?_getD, List.getD_eq_getElem?_getD, List.getElem?_take, if_pos hj, List.getElem?_map, List.getElem?_eq_getElem (by have := HDL.out; omega)]
                  rfl)
                rw [hlT] at hL1
                have HL1 := Lib.hid hL1
                have HD2 := Lib.hid (And.intro (insN_perm HD.out.1 (m + 1)) (insN_sorted HD.out.2 (by have := HDL.out; omega) (fun b h1 h2 => HIN.out b h1 (by have := HDL.out; omega)) HSTOP.out))
                have s0 : (0 : Int) ≤ ((m : Int) + 1) := by omega
                have s1 : ((m : Int) + 1) ≤ (cap' : Int) := by omega
                have s2 : ((m : Int) + 1) ≤ (i : Int) := by omega
                have s3 : m + 1 ≤ cap' := by omega
                have s4 : m + 1 ≤ i := by omega
                skip
                clear honV hlI hlT hL1 HIN HSTOP hWV
                go_region_held3 (fun _ => True) (trivial) (first | (go_at_call 69; ((with_reducible refine (HL1.out _ (by repeat (first | exact Below.refl _ _ | assumption | refine Below.drew ?_ | refine below_drewN ?_ _ | refine Below.alloc ?_ (by first | omega | (simp; done) | (simp; omega)) _ | refine Below.setCell ?_ (by first | omega | (simp; done) | (simp; omega)) _ | refine Below.trans ?_ (Below.mono (by assumption) (by first | omega | (simp; done) | (simp; omega)))))).mono ?_); rintro e w3 ⟨v3, rfl, ho3, hb3⟩; have hs3 := hb3.size; (try simp at hs3); have hV3 : Below V.heap.size V w3 := (by repeat (first | exact Below.refl _ _ | assumption | refine Below.drew ?_ | refine below_drewN ?_ _ | refine Below.alloc ?_ (by first | omega | (simp; done) | (simp; omega)) _ | refine Below.setCell ?_ (by first | omega | (simp; done) | (simp; omega)) _ | refine Below.trans ?_ (Below.mono (by assumption) (by first | omega | (simp; done) | (simp; omega))))); have ho3' := own_mono (b' := V.heap.size) ho3 (by first | omega | (simp; done) | (simp; omega)))) | (refine step_appI rfl _ _ rfl V.heap.size v3 ((ints d).take (m + 1)) rfl (by first | exact ho3' | exact own_below ho3' ((Below.refl _ _).alloc (Nat.le_refl _) _)) _ 1 _ [(i : Int)] rfl rfl (by intro j u hj; match j, hj with | 0, hj => (simp at hj; subst hj; first | (simp [Addr.add]; done) | (rw [Addr.add_lit]; exact (hb3.cell (p := ⟨V.heap.size, 0, none⟩) (by simp)).trans (by go_simp)) | (simp only [Addr.add_lit, Nat.add_zero]; exact (hb3.cell (p := ⟨V.heap.size, 0, none⟩) (by simp)).trans (by go_simp)))) HTL.out (by first | omega | (simp; done) | (simp; omega)) ?_; intro v5 w5 ho5 hg5; have hz5 := hg5.size; (try simp at hz5)) | (refine step_appI rfl _ _ rfl V.heap.size v5 _ rfl ho5 _ (i - (m + 1)) _ ((ints d).drop (m + 1)) HDR.out rfl (by intro j u hj; rw [Addr.add_lit]; have hc := HCL.out j u hj; have hne : some g ≠ v3.ownBlock := (fun e => by have := (World.ownsRow.lt ho3' g e.symm).1; omega); exact hg5.cell (by first | exact (hV3.cell (p := ⟨g, _, none⟩) hgV).trans hc | exact (World.cell?_alloc_past _ _ _ (by show g < _; omega)).trans ((hV3.cell (p := ⟨g, _, none⟩) hgV).trans hc)) hne) HLE.out (by first | omega | (simp; done) | (simp; omega)) ?_; intro v7 w7 ho7 hg7))
                all_goals
                  have hB5 : Below V.heap.size V w5 := Below.grown (by repeat (first | exact Below.refl _ _ | assumption | refine Below.drew ?_ | refine below_drewN ?_ _ | refine Below.alloc ?_ (by first | omega | (simp; done) | (simp; omega)) _ | refine Below.setCell ?_ (by first | omega | (simp; done) | (simp; omega)) _ | refine Below.trans ?_ (Below.mono (by assumption) (by first | omega | (simp; done) | (simp; omega))))) hg5 (by first | omega | (simp; done) | (simp; omega)) (fun q hq => (World.ownsRow.lt ho3' q hq).1)
                  have hB7 : Below V.heap.size V w7 := Below.grown hB5 hg7 hB5.size (fun q hq => (World.ownsRow.lt ho5 q hq).1)
                  skip
                  rw [insN_ints] at ho7
                  have HRES := Lib.hid (own_mono ho7 hwV)
                  have hB8 : Below w.heap.size w w7 := hBV.trans (hB7.mono hwV)
                  clear ho3 ho3' hb3 hV3 hg5 hg7 ho5 ho7 hB5 hB7 HCL HDR HLE HL1 hBV
                  go_wp2
                  go_roundw
                  case rel => exact ⟨i + 1, _, insN d (m + 1) i, by omega, by go_num, rfl, HRES, HD2, hB8⟩
                  case measure => simp [intOf] <;> omega
    · obtain rfl : i = l.length := by omega
      obtain rfl := ord_unique HND.out HD.out.1 HD.out.2
      go_wp2
      exact bodyPost_ret (v := .tuple #[vo, .bool true]) (by simp [results, Try.results41, go_sem, *]) rfl ⟨_, rfl, HOWN.out, (by repeat (first | exact Below.refl _ _ | assumption | refine Below.drew ?_ | refine below_drewN ?_ _ | refine Below.alloc ?_ (by first | omega | (simp; done) | (simp; omega)) _ | refine Below.setCell ?_ (by first | omega | (simp; done) | (simp; omega)) _ | refine Below.trans ?_ (Below.mono (by assumption) (by first | omega | (simp; done) | (simp; omega)))))⟩
theorem ordS_any (a : Option Addr) (cap : Nat) (l : List (Int × Int)) (hl : l.length ≤ 1048576) (hc : l.length ≤ cap) {w : World} (ha : PairsAt w a l) :
    Calls Try.prog 41 #[.slice a l.length cap] w fun e w' => ∃ v, e = .returned (.tuple #[v, .bool (chOk l)]) ∧ OwnInts w' w.heap.size v (ordL l) ∧ Below w.heap.size w w' := by
  cases hv : chOk l
  · have e2 : ordL l = [] := by unfold ordL; rw [if_neg (by rw [hv]; simp)]
    rw [e2]
    exact (ordS_no a cap l hl hc ha hv).mono fun e w' ⟨he, hb⟩ => ⟨_, he, World.ownsRow_nil _ _ _ _, hb⟩
  · have e2 : ordL l = ints (ordN l) := by unfold ordL; rw [if_pos hv]
    rw [e2]
    exact ordS_yes a cap l hl hc ha hv

end Go.Proofs.Ytfimjfchdaioeaa
