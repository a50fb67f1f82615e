/- Moved and mirrored charts, both sides. No conditions but those written in each theorem. -/
import Derived.Test.YtfimjfchdaioeaaChSwap
import Derived.Test.YtfimjfchdaioeaaStMove
import Derived.Deep.RegionHeld3
import Derived.Deep.DrawnRows
import Derived.IntWalk
import Derived.Laws.AppendOwn
import Derived.Deep.AppendLies
import Derived.StillTailTactics
import Derived.Deep.DeepCutAuto
namespace Go.Proofs.Ytfimjfchdaioeaa
open Go.RowKit


attribute [local go_sem ↓] Go.wp_at_zero Go.wp_at_succ

/-- The first k spots, changed. -/
def mpTo (g : Int → Int → Int × Int) (l : List (Int × Int)) (k : Nat) : List (Int × Int) := (List.range k).map fun i => g (sx l i) (sy l i)
theorem mpTo_length (g : Int → Int → Int × Int) (l : List (Int × Int)) (k : Nat) : (mpTo g l k).length = k := by simp [mpTo]
theorem mpTo_step (g : Int → Int → Int × Int) (l : List (Int × Int)) (k : Nat) : mpTo g l (k + 1) = mpTo g l k ++ [((g (sx l k) (sy l k)).1, (g (sx l k) (sy l k)).2)] := by simp [mpTo, List.range_succ]
theorem mpTo_at (g : Int → Int → Int × Int) (l : List (Int × Int)) {k i : Nat} (h : i < k) : sx (mpTo g l k) i = (g (sx l i) (sy l i)).1 ∧ sy (mpTo g l k) i = (g (sx l i) (sy l i)).2 := by
  simp [mpTo, sx, sy, List.getD_eq_getElem?_getD, h]
/-- The first k spots changed in their place. -/
def mpUp (g : Int → Int → Int × Int) (l : List (Int × Int)) : Nat → List (Int × Int)
  | 0 => l
  | k + 1 => (mpUp g l k).set k ((g (sx l k) (sy l k)).1, (g (sx l k) (sy l k)).2)
theorem mpUp_length (g : Int → Int → Int × Int) (l : List (Int × Int)) : ∀ k, (mpUp g l k).length = l.length
  | 0 => rfl
  | k + 1 => by rw [mpUp, List.length_set, mpUp_length g l k]
theorem mpUp_get (g : Int → Int → Int × Int) (l : List (Int × Int)) : ∀ k i, i < l.length → (mpUp g l k)[i]? = if i < k then some (g (sx l i) (sy l i)) else l[i]?
  | 0, i, _ => by simp [mpUp]
  | k + 1, i, h => by
    rw [mpUp, List.getElem?_set, mpUp_length]
    by_cases e : k = i
    · subst e; simp [h]
    · rw [if_neg e, mpUp_get g l k i h]
      by_cases e2 : i < k
      · rw [if_pos e2, if_pos (by omega)]
      · rw [if_neg e2, if_neg (by omega)]
theorem mpUp_rest (g : Int → Int → Int × Int) (l : List (Int × Int)) {k i : Nat} (h : k ≤ i) (hi : i < l.length) : sx (mpUp g l k) i = sx l i ∧ sy (mpUp g l k) i = sy l i := by
  have e := mpUp_get g l k i hi
  rw [if_neg (by omega)] at e
  simp [sx, sy, List.getD_eq_getElem?_getD, e]
theorem mpUp_all (g : Int → Int → Int × Int) (l : List (Int × Int)) : mpUp g l l.length = mpTo g l l.length := by
  apply List.ext_getElem?
  intro i
  by_cases h : i < l.length
  · rw [mpUp_get g l _ i h, if_pos h]
    simp [mpTo, h]
  · rw [List.getElem?_eq_none (by rw [mpUp_length]; omega), List.getElem?_eq_none (by rw [mpTo_length]; omega)]
/-- A change that keeps different spots different keeps charts on the field. -/
theorem mp_diff {g : Int → Int → Int × Int} (hg : ∀ x y x' y', g x y = g x' y' → x = x' ∧ y = y') {l : List (Int × Int)} (h : diffP l = true) : diffP (mpTo g l l.length) = true := by
  have e : mpTo g l l.length = l.map fun p => g p.1 p.2 := by
    apply List.ext_getElem?
    intro i
    by_cases h : i < l.length
    · simp [mpTo, h, sx, sy, List.getD_eq_getElem?_getD]
    · rw [List.getElem?_eq_none (by rw [mpTo_length]; omega), List.getElem?_eq_none (by simp; omega)]
  rw [e]
  unfold diffP at h ⊢
  have h := of_decide_eq_true h
  apply decide_eq_true
  exact List.Pairwise.map _ (fun a b hab e => hab (by have := hg _ _ _ _ e; exact Prod.ext this.1 this.2)) h

def gMir (x y : Int) : Int × Int := (1280 - x, y)
def gMov (dx dy x y : Int) : Int × Int := (x + dx, y + dy)
def mirL (l : List (Int × Int)) : List (Int × Int) := if chOk l then mpTo gMir l l.length else []
def mvO (l : List (Int × Int)) (dx dy : Int) : Bool := chOk l && allP (fun x y => canMove x y dx dy) l
def mvL (l : List (Int × Int)) (dx dy : Int) : List (Int × Int) := if mvO l dx dy then mpTo (gMov dx dy) l l.length else []
theorem mirL_length (l : List (Int × Int)) : (mirL l).length ≤ l.length := by unfold mirL; split <;> simp [mpTo_length]
theorem mvL_length (l : List (Int × Int)) (dx dy : Int) : (mvL l dx dy).length ≤ l.length := by unfold mvL; split <;> simp [mpTo_length]
theorem gMov_inj {dx dy x y x' y' : Int} (h : gMov dx dy x y = gMov dx dy x' y') : x = x' ∧ y = y' := by
  unfold gMov at h
  have h1 := congrArg Prod.fst h
  have h2 := congrArg Prod.snd h
  dsimp only at h1 h2
  omega
/-- The other side moves all at once and looks then. -/
theorem mv_spec {l : List (Int × Int)} (h : chOk l = true) (dx dy : Int) : mvO l dx dy = (inB (-2000) dx 2000 && inB (-2000) dy 2000 && chOk (mpTo (gMov dx dy) l l.length)) := by
  obtain ⟨h1, h2, h3, h4⟩ := chOk_parts h
  have e : chOk (mpTo (gMov dx dy) l l.length) = allOn (mpTo (gMov dx dy) l l.length) := by
    unfold chOk
    rw [mp_diff (fun _ _ _ _ => gMov_inj) h2, mpTo_length, inB_iff.2 ⟨by omega, by omega⟩, Bool.and_true, Bool.and_true]
  rw [e]
  unfold mvO
  rw [h, Bool.true_and]
  cases hx : inB (-2000) dx 2000
  · exact allP_false (j := 0) (by omega) (by unfold canMove; rw [hx, Bool.and_false]; rfl)
  · cases hy : inB (-2000) dy 2000
    · exact allP_false (j := 0) (by omega) (by unfold canMove; rw [hy, Bool.and_false]; rfl)
    · rw [Bool.true_and, Bool.true_and]
      cases ho : allOn (mpTo (gMov dx dy) l l.length)
      · cases hp : allP (fun x y => canMove x y dx dy) l
        · rfl
        · exfalso
          have : allOn (mpTo (gMov dx dy) l l.length) = true := allOn_true (fun j hj => by
            rw [mpTo_length] at hj
            have hc := allP_at hp j hj
            rw [(mpTo_at (gMov dx dy) l hj).1, (mpTo_at (gMov dx dy) l hj).2]
            unfold canMove at hc
            rw [Bool.and_eq_true] at hc
            exact hc.2)
          rw [this] at ho
          cases ho
      · refine allP_true (fun j hj => ?_)
        have hc := allOn_at ho j (by rw [mpTo_length]; exact hj)
        rw [(mpTo_at (gMov dx dy) l hj).1, (mpTo_at (gMov dx dy) l hj).2] at hc
        unfold canMove
        rw [allOn_at h1 j hj, hx, hy]
        exact hc

set_option maxHeartbeats 400000 in
theorem stMir_any (x y : Int) (h : onField x y = true) (w : World) :
    Calls Try.prog 59 #[.agg #[.int .i64 x, .int .i64 y]] w fun e w' => e = .returned (.agg #[.int .i64 (1280 - x), .int .i64 y]) ∧ Below w.heap.size w w' := by
  obtain ⟨q1, q2, q3, q4, q5, q6, q7⟩ := nadd
  obtain ⟨⟨a1, a2⟩, a3, a4⟩ := onField_iff.1 h
  all_goals
    go_enter Try.func59, Try.ntmps59
    go_wp2
    first | exact bodyPost_ret (v := .agg #[.int .i64 (1280 - x), .int .i64 y]) (by simp [results, Try.results59, go_sem, *]) rfl ⟨rfl, (by repeat (first | exact Below.refl _ _ | assumption | refine Below.drew ?_ | refine below_drewN ?_ _ | refine Below.alloc ?_ (by first | omega | (simp; done) | (simp; omega)) _ | refine Below.setCell ?_ (by first | omega | (simp; done) | (simp; omega)) _ | refine Below.trans ?_ (Below.mono (by assumption) (by first | omega | (simp; done) | (simp; omega)))))⟩

set_option maxHeartbeats 400000 in
theorem mirSpot_any (x y : Int) (h : onField x y = true) (w : World) :
    Calls Try.prog 60 #[.agg #[.int .i64 x, .int .i64 y]] w fun e w' => e = .returned (.tuple #[.agg #[.int .i64 (1280 - x), .int .i64 y], .bool true]) ∧ Below w.heap.size w w' := by
  obtain ⟨q1, q2, q3, q4, q5, q6, q7⟩ := nadd
  obtain ⟨⟨a1, a2⟩, a3, a4⟩ := onField_iff.1 h
  have hI := fun W => isSpot_any x y W
  rw [h] at hI
  have HI := Lib.hid hI
  clear hI h
  all_goals
    go_enter Try.func60, Try.ntmps60
    go_wp2_with (first | (go_at_call 79; (refine (HI.out _).mono ?_; rintro e w1 ⟨rfl, hb1⟩; have hs1 := hb1.size; (try simp at hs1); obtain ⟨hcn, hfn, hln⟩ := bcellN (w.heap.size + 2) hb1 (by first | omega | (simp; done) | (simp; omega)); have hz0 : w.heap.size < w1.heap.size := (by omega); have hz1 : w.heap.size + 1 < w1.heap.size := (by omega); (first | have hk4 := call_facts hl3 hb1 (by first | omega | (simp; done) | (simp; omega)) | skip); (first | have hk3 := call_facts hl2 hb1 (by first | omega | (simp; done) | (simp; omega)) | skip); (first | have hk2 := call_facts hl1 hb1 (by first | omega | (simp; done) | (simp; omega)) | skip); have hk1 := call_facts (fun b h => h) hb1 (Nat.le_refl _); (first | have hl4 := hk4.1 | skip); (first | have hl3 := hk3.1 | skip); (first | have hl2 := hk2.1 | skip); have hl1 := hk1.1)))
    first | exact bodyPost_ret (v := .tuple #[.agg #[.int .i64 (1280 - x), .int .i64 y], .bool true]) (by simp [results, Try.results60, go_sem, *]) rfl ⟨rfl, (by repeat (first | exact Below.refl _ _ | assumption | refine Below.drew ?_ | refine below_drewN ?_ _ | refine Below.alloc ?_ (by first | omega | (simp; done) | (simp; omega)) _ | refine Below.setCell ?_ (by first | omega | (simp; done) | (simp; omega)) _ | refine Below.trans ?_ (Below.mono (by assumption) (by first | omega | (simp; done) | (simp; omega)))))⟩

set_option maxHeartbeats 1000000 in
theorem mvC_any (x y dx dy : Int) (P Q : Nat) {w : World} (hP : w.cell? ⟨P, 0, none⟩ = some (.int .i64 dx)) (hQ : w.cell? ⟨Q, 0, none⟩ = some (.int .i64 dy)) :
    Calls Try.prog 57 #[.agg #[.int .i64 x, .int .i64 y], .pointer (some ⟨P, 0, none⟩), .pointer (some ⟨Q, 0, none⟩)] w fun e w' => e = .returned (.tuple #[.agg #[.int .i64 (guardI (canMove x y dx dy) (x + dx)), .int .i64 (guardI (canMove x y dx dy) (y + dy))], .bool (canMove x y dx dy)]) ∧ Below w.heap.size w w' := by
  obtain ⟨q1, q2, q3, q4, q5, q6, q7⟩ := nadd
  have hPl : P < w.heap.size := World.block_lt_of_cell? _ _ hP
  have hQl : Q < w.heap.size := World.block_lt_of_cell? _ _ hQ
  have p1 : ¬ P = w.heap.size := by omega
  have p2 : ¬ P = w.heap.size + 1 := by omega
  have p3 : ¬ Q = w.heap.size := by omega
  have p4 : ¬ Q = w.heap.size + 1 := by omega
  have p5 : P < w.heap.size + 1 := by omega
  have p6 : Q < w.heap.size + 1 := by omega
  have HM := Lib.hid (fun W => moveSpot_any x y dx dy W)
  obtain ⟨A, hA⟩ : ∃ z, z = guardI (canMove x y dx dy) (x + dx) := ⟨_, rfl⟩
  obtain ⟨B, hB⟩ : ∃ z, z = guardI (canMove x y dx dy) (y + dy) := ⟨_, rfl⟩
  obtain ⟨C, hC⟩ : ∃ z, z = canMove x y dx dy := ⟨_, rfl⟩
  rw [← hA, ← hB, ← hC] at HM
  rw [← hA, ← hB, ← hC]
  clear hA hB hC
  go_enter Try.func57, Try.ntmps57
  go_wp2_with (go_at_call 58; (refine (HM.out _).mono ?_; rintro e w1 ⟨rfl, hb1⟩; have hs1 := hb1.size; (try simp at hs1); obtain ⟨hcn, hfn, hln⟩ := bcellN (w.heap.size + 2) hb1 (by first | omega | (simp; done) | (simp; omega)); have hz0 : w.heap.size < w1.heap.size := (by omega); have hz1 : w.heap.size + 1 < w1.heap.size := (by omega); (first | have hk4 := call_facts hl3 hb1 (by first | omega | (simp; done) | (simp; omega)) | skip); (first | have hk3 := call_facts hl2 hb1 (by first | omega | (simp; done) | (simp; omega)) | skip); (first | have hk2 := call_facts hl1 hb1 (by first | omega | (simp; done) | (simp; omega)) | skip); have hk1 := call_facts (fun b h => h) hb1 (Nat.le_refl _); (first | have hl4 := hk4.1 | skip); (first | have hl3 := hk3.1 | skip); (first | have hl2 := hk2.1 | skip); have hl1 := hk1.1))
  first | exact bodyPost_ret (v := .tuple #[.agg #[.int .i64 A, .int .i64 B], .bool C]) (by simp [results, Try.results57, go_sem, *]) rfl ⟨rfl, (by repeat (first | exact Below.refl _ _ | assumption | refine Below.drew ?_ | refine below_drewN ?_ _ | refine Below.alloc ?_ (by first | omega | (simp; done) | (simp; omega)) _ | refine Below.setCell ?_ (by first | omega | (simp; done) | (simp; omega)) _ | refine Below.trans ?_ (Below.mono (by assumption) (by first | omega | (simp; done) | (simp; omega)))))⟩

set_option maxRecDepth 100000 in
set_option maxHeartbeats 1000000 in
theorem chgM_no (a : Option Addr) (cap : Nat) (l : List (Int × Int)) (hl : l.length ≤ 1048576) {w : World} (ha : PairsAt w a l)  (hv : chOk l = false) :
    Calls Try.prog 56 #[.slice a l.length cap, .func (Fn.func 60) #[] #[]] w fun e w' => e = .returned (.tuple #[.slice none 0 0, .bool false]) ∧ Below w.heap.size w w' := by
  have HG := Lib.hid (fun (W : World) (hb : Below w.heap.size w W) => isChart_any a cap l hl (ha.below hb))
  rw [hv] at HG
  clear hv
  go_enter Try.func56, Try.ntmps56
  go_wp2_with (go_at_call 17; ((with_reducible refine (HG.out _ (by repeat (first | exact Below.refl _ _ | assumption | refine Below.drew ?_ | refine below_drewN ?_ _ | refine Below.alloc ?_ (by first | omega | (simp; done) | (simp; omega)) _ | refine Below.setCell ?_ (by first | omega | (simp; done) | (simp; omega)) _ | refine Below.trans ?_ (Below.mono (by assumption) (by first | omega | (simp; done) | (simp; omega)))))).mono ?_); rintro e w1 ⟨rfl, hb1⟩; have hs1 := hb1.size; (try simp at hs1)))
  go_ret2
  exact ⟨rfl, (by repeat (first | exact Below.refl _ _ | assumption | refine Below.drew ?_ | refine below_drewN ?_ _ | refine Below.alloc ?_ (by first | omega | (simp; done) | (simp; omega)) _ | refine Below.setCell ?_ (by first | omega | (simp; done) | (simp; omega)) _ | refine Below.trans ?_ (Below.mono (by assumption) (by first | omega | (simp; done) | (simp; omega)))))⟩

set_option maxRecDepth 100000 in
set_option maxHeartbeats 1600000 in
theorem chgM_yes (a : Option Addr) (cap : Nat) (l : List (Int × Int)) (hl : l.length ≤ 1048576) {w : World} (ha : PairsAt w a l)   (hv : chOk l = true)  :
    Calls Try.prog 56 #[.slice a l.length cap, .func (Fn.func 60) #[] #[]] w fun e w' => ∃ v, e = .returned (.tuple #[v, .bool (true)]) ∧ OwnPairs 41 w' w.heap.size v (mpTo gMir l l.length) ∧ Below w.heap.size w w' := by
  obtain ⟨j0, hi, hz0, hz1, hz2⟩ := info_parts Try.infoSpot
  have HI := Lib.hid hi
  have HZ0 := Lib.hid hz0
  have HZ1 := Lib.hid hz1
  have HZ2 := Lib.hid hz2
  clear hi hz0 hz1 hz2
  have HG := Lib.hid (fun (W : World) (hb : Below w.heap.size w W) => isChart_any a cap l hl (ha.below hb))
  rw [hv] at HG
  obtain ⟨c1, c2, c3, c4⟩ := chOk_parts hv
  have HA := Lib.hid ha
  have HON := Lib.hid c1
  skip
  have HGS := Lib.hid (fun k => mpTo_step (gMir) l k)
  have HGL := Lib.hid (fun k => mpTo_length (gMir) l k)
  obtain ⟨G, hG⟩ : ∃ G, G = mpTo (gMir) l := ⟨_, rfl⟩
  have h0 : G 0 = [] := by rw [hG]; rfl
  rw [← hG] at HGS HGL
  have HGE := Lib.hid hG
  have H0 := Lib.hid h0
  clear hv ha c1 hG h0
  go_enter Try.func56, Try.ntmps56
  go_wp2_with (go_at_call 17; ((with_reducible refine (HG.out _ (by repeat (first | exact Below.refl _ _ | assumption | refine Below.drew ?_ | refine below_drewN ?_ _ | refine Below.alloc ?_ (by first | omega | (simp; done) | (simp; omega)) _ | refine Below.setCell ?_ (by first | omega | (simp; done) | (simp; omega)) _ | refine Below.trans ?_ (Below.mono (by assumption) (by first | omega | (simp; done) | (simp; omega)))))).mono ?_); rintro e w1 ⟨rfl, hb1⟩; have hs1 := hb1.size; (try simp at hs1)))
  have hbw : Below w.heap.size w w1 := (by repeat (first | exact Below.refl _ _ | assumption | refine Below.drew ?_ | refine below_drewN ?_ _ | refine Below.alloc ?_ (by first | omega | (simp; done) | (simp; omega)) _ | refine Below.setCell ?_ (by first | omega | (simp; done) | (simp; omega)) _ | refine Below.trans ?_ (Below.mono (by assumption) (by first | omega | (simp; done) | (simp; omega)))))
  clear hb1 
  go_loopw [6, 16] (fun ov i wr => ∃ (k : Nat) (vo : Value), k ≤ l.length ∧ i = .int .i64 k ∧ ov = vo ∧ Hid (OwnPairs 41 wr w.heap.size vo (G k)) ∧ Below w.heap.size w wr) (fun _ i _ => l.length - (intOf i).toNat)
  case atStart => exact ⟨0, _, Nat.zero_le _, rfl, rfl, Lib.hid (by rw [H0.out]; exact own_nil _ _ _), hbw⟩
  case round =>
    clear hbw 
    obtain ⟨k, vo, hk, rfl, hvo, HOWN, hbr⟩ := hrel
    replace hvo := hvo.symm
    subst hvo
    have hsr := hbr.size
    by_cases hlt : k < l.length
    · obtain ⟨b, off, rfl, e0, e1⟩ := (HA.out.below hbr) k hlt
      obtain ⟨⟨o1, o2⟩, o3, o4⟩ := onField_iff.1 (allOn_at HON.out k hlt)
      have hst := HGS.out k
      have hal := HGL.out k
      obtain ⟨acc, hacc⟩ : ∃ acc, acc = G k := ⟨_, rfl⟩
      rw [← hacc] at HOWN hst hal
      have hal9 : acc.length ≤ 12 := by omega
      have HK := Lib.hid (fun (W : World) => mirSpot_any (sx l k) (sy l k) (allOn_at HON.out k hlt) W)
      skip
      obtain ⟨X, hX⟩ : ∃ X, X = sx l k := ⟨_, rfl⟩
      obtain ⟨Y, hY⟩ : ∃ Y, Y = sy l k := ⟨_, rfl⟩
      rw [← hX, ← hY] at HK hst
      rw [← hX] at e0 o1 o2
      rw [← hY] at e1 o3 o4
      skip
      obtain ⟨rx, hrx⟩ : ∃ z, z = 1280 - X := ⟨_, rfl⟩
      have hst : G (k + 1) = acc ++ [(rx, Y)] := by rw [hrx]; exact hst
      rw [← hrx] at HK
      have HST := Lib.hid hst
      have HOL := Lib.hid (World.ownsRow.lt HOWN.out)
      have HOWN2 := Lib.hid (fun (W : World) (hb : Below wr.heap.size wr W) => own_below HOWN.out hb)
      clear hacc hst hal hX hY hrx
      go_upto_region 10 with (go_at_call 60; ((with_reducible refine (HK.out _ ).mono ?_); rintro e w3 ⟨rfl, hb3⟩; have hs3 := hb3.size; (try simp at hs3); have hbr3 : Below wr.heap.size wr w3 := (by repeat (first | exact Below.refl _ _ | assumption | refine Below.drew ?_ | refine below_drewN ?_ _ | refine Below.alloc ?_ (by first | omega | (simp; done) | (simp; omega)) _ | refine Below.setCell ?_ (by first | omega | (simp; done) | (simp; omega)) _ | refine Below.trans ?_ (Below.mono (by assumption) (by first | omega | (simp; done) | (simp; omega))))); have hb33 : Below w.heap.size w w3 := Below.trans hbr (Below.mono hbr3 hsr)))
      obtain ⟨W4, hW4⟩ : ∃ W, W = w3.alloc (.cells #[.int .i64 rx, .int .i64 Y] 41) := ⟨_, rfl⟩
      have d0 : W4.cell? ⟨w3.heap.size, 0, none⟩ = some (.int .i64 rx) := by rw [hW4]; go_simp
      have d1 : W4.cell? ⟨w3.heap.size, 1, none⟩ = some (.int .i64 Y) := by rw [hW4]; go_simp
      have hs4 : w3.heap.size < W4.heap.size := by rw [hW4]; simp
      have hbr4 : Below wr.heap.size wr W4 := by rw [hW4]; exact Below.alloc hbr3 (by omega) _
      have hb44 : Below w.heap.size w W4 := Below.trans hbr (Below.mono hbr4 hsr)
      rw [← hW4]
      clear hW4 hb3 hbr3 hb33
      go_wp2_with (at_builtin; refine wpList_append_lies _ rfl _ _ 25 rfl (w.heap.size) 41 j0 (.agg #[.int .i64 0, .int .i64 0]) 2 16 Try.underlying25 HI.out HZ0.out HZ1.out HZ2.out rfl (by omega) vo (acc.length) (pairV acc) rfl (HOWN2.out _ (Below.alloc hbr4 hbr4.size _)) ⟨_, 0, none⟩ 1 1 [.int .i64 (rx), .int .i64 (Y)] rfl rfl (World.news_of_block (cs := #[.int .i64 (rx), .int .i64 (Y)]) (t := 41) (fr := (0, 0)) (heap_alloc_new _ _)) (by simp [Value.oneCell']) (by omega) (by unfold maxLen; omega) (by omega) (by simp; omega) _ rfl ?_; intro gg cap5 w5 hown5 hgrow5 hat5 hlt5)
      have hne : ∀ b, b < w.heap.size → some b ≠ vo.ownBlock := fun b hb e => by have := HOL.out b e.symm; omega
      have hb5 : Below w.heap.size w w5 := Below.grown (Below.alloc hb44 hb44.size _) hgrow5 (by first | (simp; omega) | omega) (fun q hq => by have := HOL.out q hq; omega)
      have hown6 : OwnPairs 41 w5 w.heap.size (.slice (some ⟨gg, 0, none⟩) (acc.length + 1) cap5) (G (k + 1)) := by rw [HST.out, OwnPairs, pairV_append, List.length_append]; simpa [pairV] using hown5
      have HO6 := Lib.hid hown6
      skip
      clear hat5 hgrow5 hown5 hown6 hne hb44 hbr4 d0 d1
      have hs5 := hb5.size
      go_wp2
      go_roundw
      case rel => exact ⟨k + 1, _, by omega, by go_num, rfl, HO6, hb5⟩
      case measure => simp [intOf]; omega
    · obtain rfl : k = l.length := by omega
      have EE : Hid (True ∧ mpTo gMir l l.length = G l.length) := Lib.hid ⟨trivial, by rw [HGE.out]⟩
      go_wp2
      exact bodyPost_ret (v := .tuple #[vo, .bool true]) (by simp [results, Try.results56, go_sem, *]) rfl ⟨_, rfl, by rw [EE.out.2]; exact HOWN.out, (by repeat (first | exact Below.refl _ _ | assumption | refine Below.drew ?_ | refine below_drewN ?_ _ | refine Below.alloc ?_ (by first | omega | (simp; done) | (simp; omega)) _ | refine Below.setCell ?_ (by first | omega | (simp; done) | (simp; omega)) _ | refine Below.trans ?_ (Below.mono (by assumption) (by first | omega | (simp; done) | (simp; omega)))))⟩

set_option maxRecDepth 100000 in
set_option maxHeartbeats 1000000 in
theorem chgV_no (a : Option Addr) (cap : Nat) (l : List (Int × Int)) (hl : l.length ≤ 1048576) {w : World} (ha : PairsAt w a l) (dx dy : Int) (P Q : Nat) (hv : chOk l = false) :
    Calls Try.prog 56 #[.slice a l.length cap, .func (Fn.func 57) #[] #[.pointer (some ⟨P, 0, none⟩), .pointer (some ⟨Q, 0, none⟩)]] w fun e w' => e = .returned (.tuple #[.slice none 0 0, .bool false]) ∧ Below w.heap.size w w' := by
  have HG := Lib.hid (fun (W : World) (hb : Below w.heap.size w W) => isChart_any a cap l hl (ha.below hb))
  rw [hv] at HG
  clear hv
  go_enter Try.func56, Try.ntmps56
  go_wp2_with (go_at_call 17; ((with_reducible refine (HG.out _ (by repeat (first | exact Below.refl _ _ | assumption | refine Below.drew ?_ | refine below_drewN ?_ _ | refine Below.alloc ?_ (by first | omega | (simp; done) | (simp; omega)) _ | refine Below.setCell ?_ (by first | omega | (simp; done) | (simp; omega)) _ | refine Below.trans ?_ (Below.mono (by assumption) (by first | omega | (simp; done) | (simp; omega)))))).mono ?_); rintro e w1 ⟨rfl, hb1⟩; have hs1 := hb1.size; (try simp at hs1)))
  go_ret2
  exact ⟨rfl, (by repeat (first | exact Below.refl _ _ | assumption | refine Below.drew ?_ | refine below_drewN ?_ _ | refine Below.alloc ?_ (by first | omega | (simp; done) | (simp; omega)) _ | refine Below.setCell ?_ (by first | omega | (simp; done) | (simp; omega)) _ | refine Below.trans ?_ (Below.mono (by assumption) (by first | omega | (simp; done) | (simp; omega)))))⟩

set_option maxRecDepth 100000 in
set_option maxHeartbeats 1600000 in
theorem chgV_yes (a : Option Addr) (cap : Nat) (l : List (Int × Int)) (hl : l.length ≤ 1048576) {w : World} (ha : PairsAt w a l) (dx dy : Int) (P Q : Nat) (hP : w.cell? ⟨P, 0, none⟩ = some (.int .i64 dx)) (hQ : w.cell? ⟨Q, 0, none⟩ = some (.int .i64 dy)) (hv : chOk l = true)  :
    Calls Try.prog 56 #[.slice a l.length cap, .func (Fn.func 57) #[] #[.pointer (some ⟨P, 0, none⟩), .pointer (some ⟨Q, 0, none⟩)]] w fun e w' => ∃ v, e = .returned (.tuple #[v, .bool (mvO l dx dy)]) ∧ OwnPairs 41 w' w.heap.size v (mvL l dx dy) ∧ Below w.heap.size w w' := by
  obtain ⟨j0, hi, hz0, hz1, hz2⟩ := info_parts Try.infoSpot
  have HI := Lib.hid hi
  have HZ0 := Lib.hid hz0
  have HZ1 := Lib.hid hz1
  have HZ2 := Lib.hid hz2
  clear hi hz0 hz1 hz2
  have HG := Lib.hid (fun (W : World) (hb : Below w.heap.size w W) => isChart_any a cap l hl (ha.below hb))
  rw [hv] at HG
  obtain ⟨c1, c2, c3, c4⟩ := chOk_parts hv
  have HA := Lib.hid ha
  have HON := Lib.hid c1
  have HCV := Lib.hid hv
  have HGS := Lib.hid (fun k => mpTo_step (gMov dx dy) l k)
  have HGL := Lib.hid (fun k => mpTo_length (gMov dx dy) l k)
  obtain ⟨G, hG⟩ : ∃ G, G = mpTo (gMov dx dy) l := ⟨_, rfl⟩
  have h0 : G 0 = [] := by rw [hG]; rfl
  rw [← hG] at HGS HGL
  have HGE := Lib.hid hG
  have H0 := Lib.hid h0
  clear hv ha c1 hG h0
  go_enter Try.func56, Try.ntmps56
  go_wp2_with (go_at_call 17; ((with_reducible refine (HG.out _ (by repeat (first | exact Below.refl _ _ | assumption | refine Below.drew ?_ | refine below_drewN ?_ _ | refine Below.alloc ?_ (by first | omega | (simp; done) | (simp; omega)) _ | refine Below.setCell ?_ (by first | omega | (simp; done) | (simp; omega)) _ | refine Below.trans ?_ (Below.mono (by assumption) (by first | omega | (simp; done) | (simp; omega)))))).mono ?_); rintro e w1 ⟨rfl, hb1⟩; have hs1 := hb1.size; (try simp at hs1)))
  have hbw : Below w.heap.size w w1 := (by repeat (first | exact Below.refl _ _ | assumption | refine Below.drew ?_ | refine below_drewN ?_ _ | refine Below.alloc ?_ (by first | omega | (simp; done) | (simp; omega)) _ | refine Below.setCell ?_ (by first | omega | (simp; done) | (simp; omega)) _ | refine Below.trans ?_ (Below.mono (by assumption) (by first | omega | (simp; done) | (simp; omega)))))
  have hPl : P < w.heap.size := World.block_lt_of_cell? _ _ hP
  have hP1 : w1.cell? ⟨P, 0, none⟩ = some (.int .i64 dx) := (hb1.cell (p := ⟨P, 0, none⟩) hPl).trans hP
  have hQl : Q < w.heap.size := World.block_lt_of_cell? _ _ hQ
  have hQ1 : w1.cell? ⟨Q, 0, none⟩ = some (.int .i64 dy) := (hb1.cell (p := ⟨Q, 0, none⟩) hQl).trans hQ
  clear hb1 hP hQ 
  go_loopw [6, 16] (fun ov i wr => ∃ (k : Nat) (vo : Value), k ≤ l.length ∧ i = .int .i64 k ∧ ov = vo ∧ Hid (OwnPairs 41 wr w.heap.size vo (G k)) ∧ Hid (∀ j, j < k → canMove (sx l j) (sy l j) dx dy = true) ∧ wr.cell? ⟨P, 0, none⟩ = some (.int .i64 dx) ∧ wr.cell? ⟨Q, 0, none⟩ = some (.int .i64 dy) ∧ Below w.heap.size w wr) (fun _ i _ => l.length - (intOf i).toNat)
  case atStart => exact ⟨0, _, Nat.zero_le _, rfl, rfl, Lib.hid (by rw [H0.out]; exact own_nil _ _ _), Lib.hid (fun j h => absurd h (Nat.not_lt_zero j)), (hP1), (hQ1), hbw⟩
  case round =>
    clear hbw hP1 hQ1
    obtain ⟨k, vo, hk, rfl, hvo, HOWN, HKP, hP, hQ, hbr⟩ := hrel
    replace hvo := hvo.symm
    subst hvo
    have hsr := hbr.size
    by_cases hlt : k < l.length
    · obtain ⟨b, off, rfl, e0, e1⟩ := (HA.out.below hbr) k hlt
      obtain ⟨⟨o1, o2⟩, o3, o4⟩ := onField_iff.1 (allOn_at HON.out k hlt)
      have hst := HGS.out k
      have hal := HGL.out k
      obtain ⟨acc, hacc⟩ : ∃ acc, acc = G k := ⟨_, rfl⟩
      rw [← hacc] at HOWN hst hal
      have hal9 : acc.length ≤ 12 := by omega
      have hPr : P < wr.heap.size := World.block_lt_of_cell? _ _ hP
      have hQr : Q < wr.heap.size := World.block_lt_of_cell? _ _ hQ
      cases hcm : canMove (sx l k) (sy l k) dx dy
      · have E0 := Lib.hid (show mvO l dx dy = false ∧ mvL l dx dy = [] from by
            have e1 : mvO l dx dy = false := by unfold mvO; rw [HCV.out, allP_false (g := fun x y => canMove x y dx dy) hlt hcm]; rfl
            exact ⟨e1, by unfold mvL; rw [if_neg (by rw [e1]; simp)]⟩)
        have HK := Lib.hid (fun (W : World) (hhP : W.cell? ⟨P, 0, none⟩ = some (.int .i64 dx)) (hhQ : W.cell? ⟨Q, 0, none⟩ = some (.int .i64 dy)) => mvC_any (sx l k) (sy l k) dx dy P Q (w := W) hhP hhQ)
        rw [hcm] at HK
        simp only [guardI_facts.2] at HK
        obtain ⟨X, hX⟩ : ∃ X, X = sx l k := ⟨_, rfl⟩
        obtain ⟨Y, hY⟩ : ∃ Y, Y = sy l k := ⟨_, rfl⟩
        rw [← hX, ← hY] at HK hst
        rw [← hX] at e0 o1 o2
        rw [← hY] at e1 o3 o4
        
        obtain ⟨rx, hrx⟩ : ∃ z, z = X + dx := ⟨_, rfl⟩
        obtain ⟨ry, hry⟩ : ∃ z, z = Y + dy := ⟨_, rfl⟩
        have hst : G (k + 1) = acc ++ [(rx, ry)] := by rw [hrx, hry]; exact hst
        
        have HST := Lib.hid hst
        have HOL := Lib.hid (World.ownsRow.lt HOWN.out)
        have HOWN2 := Lib.hid (fun (W : World) (hb : Below wr.heap.size wr W) => own_below HOWN.out hb)
        clear hacc hst hal hX hY hrx hry
        go_wp2_with (go_at_call 57; ((with_reducible refine (HK.out _ ((World.cell?_alloc_past _ _ _ hPr).trans hP) ((World.cell?_alloc_past _ _ _ hQr).trans hQ)).mono ?_); rintro e w3 ⟨rfl, hb3⟩; have hs3 := hb3.size; (try simp at hs3); have hbr3 : Below wr.heap.size wr w3 := (by repeat (first | exact Below.refl _ _ | assumption | refine Below.drew ?_ | refine below_drewN ?_ _ | refine Below.alloc ?_ (by first | omega | (simp; done) | (simp; omega)) _ | refine Below.setCell ?_ (by first | omega | (simp; done) | (simp; omega)) _ | refine Below.trans ?_ (Below.mono (by assumption) (by first | omega | (simp; done) | (simp; omega))))); have hb33 : Below w.heap.size w w3 := Below.trans hbr (Below.mono hbr3 hsr)))
        exact bodyPost_ret (v := .tuple #[.slice none 0 0, .bool false]) (by simp [results, Try.results56, go_sem, *]) rfl ⟨_, by rw [E0.out.1], by rw [E0.out.2]; exact own_nil _ _ _, (by repeat (first | exact Below.refl _ _ | assumption | refine Below.drew ?_ | refine below_drewN ?_ _ | refine Below.alloc ?_ (by first | omega | (simp; done) | (simp; omega)) _ | refine Below.setCell ?_ (by first | omega | (simp; done) | (simp; omega)) _ | refine Below.trans ?_ (Below.mono (by assumption) (by first | omega | (simp; done) | (simp; omega)))))⟩
      · skip
        have HK := Lib.hid (fun (W : World) (hhP : W.cell? ⟨P, 0, none⟩ = some (.int .i64 dx)) (hhQ : W.cell? ⟨Q, 0, none⟩ = some (.int .i64 dy)) => mvC_any (sx l k) (sy l k) dx dy P Q (w := W) hhP hhQ)
        rw [hcm] at HK
        simp only [guardI_facts.1] at HK
        have HKP2 := Lib.hid (ext_lt (p := fun j => canMove (sx l j) (sy l j) dx dy = true) HKP.out hcm)
        obtain ⟨X, hX⟩ : ∃ X, X = sx l k := ⟨_, rfl⟩
        obtain ⟨Y, hY⟩ : ∃ Y, Y = sy l k := ⟨_, rfl⟩
        rw [← hX, ← hY] at HK hst
        rw [← hX] at e0 o1 o2
        rw [← hY] at e1 o3 o4
        skip
        obtain ⟨rx, hrx⟩ : ∃ z, z = X + dx := ⟨_, rfl⟩
        obtain ⟨ry, hry⟩ : ∃ z, z = Y + dy := ⟨_, rfl⟩
        have hst : G (k + 1) = acc ++ [(rx, ry)] := by rw [hrx, hry]; exact hst
        rw [← hrx, ← hry] at HK
        have HST := Lib.hid hst
        have HOL := Lib.hid (World.ownsRow.lt HOWN.out)
        have HOWN2 := Lib.hid (fun (W : World) (hb : Below wr.heap.size wr W) => own_below HOWN.out hb)
        clear hacc hst hal hX hY hrx hry
        go_upto_region 10 with (go_at_call 57; ((with_reducible refine (HK.out _ ((World.cell?_alloc_past _ _ _ hPr).trans hP) ((World.cell?_alloc_past _ _ _ hQr).trans hQ)).mono ?_); rintro e w3 ⟨rfl, hb3⟩; have hs3 := hb3.size; (try simp at hs3); have hbr3 : Below wr.heap.size wr w3 := (by repeat (first | exact Below.refl _ _ | assumption | refine Below.drew ?_ | refine below_drewN ?_ _ | refine Below.alloc ?_ (by first | omega | (simp; done) | (simp; omega)) _ | refine Below.setCell ?_ (by first | omega | (simp; done) | (simp; omega)) _ | refine Below.trans ?_ (Below.mono (by assumption) (by first | omega | (simp; done) | (simp; omega))))); have hb33 : Below w.heap.size w w3 := Below.trans hbr (Below.mono hbr3 hsr)))
        obtain ⟨W4, hW4⟩ : ∃ W, W = w3.alloc (.cells #[.int .i64 rx, .int .i64 ry] 41) := ⟨_, rfl⟩
        have d0 : W4.cell? ⟨w3.heap.size, 0, none⟩ = some (.int .i64 rx) := by rw [hW4]; go_simp
        have d1 : W4.cell? ⟨w3.heap.size, 1, none⟩ = some (.int .i64 ry) := by rw [hW4]; go_simp
        have hs4 : w3.heap.size < W4.heap.size := by rw [hW4]; simp
        have hbr4 : Below wr.heap.size wr W4 := by rw [hW4]; exact Below.alloc hbr3 (by omega) _
        have hb44 : Below w.heap.size w W4 := Below.trans hbr (Below.mono hbr4 hsr)
        have hP4 : W4.cell? ⟨P, 0, none⟩ = some (.int .i64 dx) := by rw [hW4]; exact (World.cell?_alloc_past _ _ _ (by omega)).trans ((hb3.cell (p := ⟨P, 0, none⟩) (by first | omega | (simp; done) | (simp; omega))).trans ((World.cell?_alloc_past _ _ _ hPr).trans hP))
        have hQ4 : W4.cell? ⟨Q, 0, none⟩ = some (.int .i64 dy) := by rw [hW4]; exact (World.cell?_alloc_past _ _ _ (by omega)).trans ((hb3.cell (p := ⟨Q, 0, none⟩) (by first | omega | (simp; done) | (simp; omega))).trans ((World.cell?_alloc_past _ _ _ hQr).trans hQ))
        rw [← hW4]
        clear hW4 hb3 hbr3 hb33
        go_wp2_with (at_builtin; refine wpList_append_lies _ rfl _ _ 25 rfl (w.heap.size) 41 j0 (.agg #[.int .i64 0, .int .i64 0]) 2 16 Try.underlying25 HI.out HZ0.out HZ1.out HZ2.out rfl (by omega) vo (acc.length) (pairV acc) rfl (HOWN2.out _ (Below.alloc hbr4 hbr4.size _)) ⟨_, 0, none⟩ 1 1 [.int .i64 (rx), .int .i64 (ry)] rfl rfl (World.news_of_block (cs := #[.int .i64 (rx), .int .i64 (ry)]) (t := 41) (fr := (0, 0)) (heap_alloc_new _ _)) (by simp [Value.oneCell']) (by omega) (by unfold maxLen; omega) (by omega) (by simp; omega) _ rfl ?_; intro gg cap5 w5 hown5 hgrow5 hat5 hlt5)
        have hne : ∀ b, b < w.heap.size → some b ≠ vo.ownBlock := fun b hb e => by have := HOL.out b e.symm; omega
        have hP9 : w5.cell? ⟨P, 0, none⟩ = some (.int .i64 dx) := (hgrow5.cell_far ⟨P, 0, none⟩ (show P < _ by first | omega | (simp; done) | (simp; omega)) (hne P (by omega))).trans ((World.cell?_alloc_past _ _ _ (by omega)).trans hP4)
        have hQ9 : w5.cell? ⟨Q, 0, none⟩ = some (.int .i64 dy) := (hgrow5.cell_far ⟨Q, 0, none⟩ (show Q < _ by first | omega | (simp; done) | (simp; omega)) (hne Q (by omega))).trans ((World.cell?_alloc_past _ _ _ (by omega)).trans hQ4)
        have hb5 : Below w.heap.size w w5 := Below.grown (Below.alloc hb44 hb44.size _) hgrow5 (by first | (simp; omega) | omega) (fun q hq => by have := HOL.out q hq; omega)
        have hown6 : OwnPairs 41 w5 w.heap.size (.slice (some ⟨gg, 0, none⟩) (acc.length + 1) cap5) (G (k + 1)) := by rw [HST.out, OwnPairs, pairV_append, List.length_append]; simpa [pairV] using hown5
        have HO6 := Lib.hid hown6
        skip
        clear hat5 hgrow5 hown5 hown6 hne hb44 hbr4 d0 d1
        have hs5 := hb5.size
        go_wp2
        go_roundw
        case rel => exact ⟨k + 1, _, by omega, by go_num, rfl, HO6, HKP2, hP9, hQ9, hb5⟩
        case measure => simp [intOf]; omega
    · obtain rfl : k = l.length := by omega
      have EE : Hid (mvO l dx dy = true ∧ mvL l dx dy = G l.length) := Lib.hid (by
        have e1 : mvO l dx dy = true := by unfold mvO; rw [HCV.out, allP_true (g := fun x y => canMove x y dx dy) HKP.out]; rfl
        exact ⟨e1, by unfold mvL; rw [if_pos e1, HGE.out]⟩)
      go_wp2
      exact bodyPost_ret (v := .tuple #[vo, .bool true]) (by simp [results, Try.results56, go_sem, *]) rfl ⟨_, by rw [EE.out.1], by rw [EE.out.2]; exact HOWN.out, (by repeat (first | exact Below.refl _ _ | assumption | refine Below.drew ?_ | refine below_drewN ?_ _ | refine Below.alloc ?_ (by first | omega | (simp; done) | (simp; omega)) _ | refine Below.setCell ?_ (by first | omega | (simp; done) | (simp; omega)) _ | refine Below.trans ?_ (Below.mono (by assumption) (by first | omega | (simp; done) | (simp; omega)))))⟩

theorem chgM_any (a : Option Addr) (cap : Nat) (l : List (Int × Int)) (hl : l.length ≤ 1048576) {w : World} (ha : PairsAt w a l)   :
    Calls Try.prog 56 #[.slice a l.length cap, .func (Fn.func 60) #[] #[]] w fun e w' => ∃ v, e = .returned (.tuple #[v, .bool (chOk l)]) ∧ OwnPairs 41 w' w.heap.size v (mirL l) ∧ Below w.heap.size w w' := by
  cases hv : chOk l
  · have e1 : chOk l = false := hv
    have e2 : mirL l = [] := by unfold mirL; rw [if_neg (by rw [hv]; simp)]
    rw [e2]
    exact (chgM_no a cap l hl ha  hv).mono fun e w' ⟨he, hb⟩ => ⟨_, he, own_nil _ _ _, hb⟩
  · have e2 : mirL l = mpTo gMir l l.length := by unfold mirL; rw [if_pos hv]
    rw [e2]
    exact chgM_yes a cap l hl ha hv

theorem chgV_any (a : Option Addr) (cap : Nat) (l : List (Int × Int)) (hl : l.length ≤ 1048576) {w : World} (ha : PairsAt w a l) (dx dy : Int) (P Q : Nat) (hP : w.cell? ⟨P, 0, none⟩ = some (.int .i64 dx)) (hQ : w.cell? ⟨Q, 0, none⟩ = some (.int .i64 dy)) :
    Calls Try.prog 56 #[.slice a l.length cap, .func (Fn.func 57) #[] #[.pointer (some ⟨P, 0, none⟩), .pointer (some ⟨Q, 0, none⟩)]] w fun e w' => ∃ v, e = .returned (.tuple #[v, .bool (mvO l dx dy)]) ∧ OwnPairs 41 w' w.heap.size v (mvL l dx dy) ∧ Below w.heap.size w w' := by
  cases hv : chOk l
  · have e1 : mvO l dx dy = false := by unfold mvO; rw [hv]; rfl
    have e2 : mvL l dx dy = [] := by unfold mvL; rw [if_neg (by rw [e1]; simp)]
    rw [e1, e2]
    exact (chgV_no a cap l hl ha dx dy P Q hv).mono fun e w' ⟨he, hb⟩ => ⟨_, he, own_nil _ _ _, hb⟩
  · exact chgV_yes a cap l hl ha dx dy P Q hP hQ hv

set_option maxHeartbeats 1000000 in
theorem mirI_any (a : Option Addr) (cap : Nat) (l : List (Int × Int)) (hl : l.length ≤ 1048576) {w : World} (ha : PairsAt w a l) :
    Calls Try.prog 28 #[.slice a l.length cap] w fun e w' => ∃ v, e = .returned (.tuple #[v, .bool (chOk l)]) ∧ OwnPairs 41 w' w.heap.size v (mirL l) ∧ Below w.heap.size w w' := by
  have HC := Lib.hid (fun (W : World) (hb : Below w.heap.size w W) => chgM_any a cap l hl (ha.below hb))
  clear ha
  go_enter Try.func28, Try.ntmps28
  go_wp2_with (go_at_call 56; (refine (HC.out _ (by repeat (first | exact Below.refl _ _ | assumption | refine Below.drew ?_ | refine below_drewN ?_ _ | refine Below.alloc ?_ (by first | omega | (simp; done) | (simp; omega)) _ | refine Below.setCell ?_ (by first | omega | (simp; done) | (simp; omega)) _ | refine Below.trans ?_ (Below.mono (by assumption) (by first | omega | (simp; done) | (simp; omega)))))).mono ?_; rintro e w3 ⟨v3, rfl, ho3, hb3⟩; have hs3 := hb3.size; (try simp at hs3)))
  go_ret2
  exact ⟨_, rfl, own_mono ho3 (by first | omega | (simp; done) | (simp; omega)), (by repeat (first | exact Below.refl _ _ | assumption | refine Below.drew ?_ | refine below_drewN ?_ _ | refine Below.alloc ?_ (by first | omega | (simp; done) | (simp; omega)) _ | refine Below.setCell ?_ (by first | omega | (simp; done) | (simp; omega)) _ | refine Below.trans ?_ (Below.mono (by assumption) (by first | omega | (simp; done) | (simp; omega)))))⟩

set_option maxHeartbeats 1000000 in
theorem movI_any (a : Option Addr) (cap : Nat) (l : List (Int × Int)) (hl : l.length ≤ 1048576) {w : World} (ha : PairsAt w a l) (dx dy : Int) :
    Calls Try.prog 24 #[.slice a l.length cap, .int .i64 dx, .int .i64 dy] w fun e w' => ∃ v, e = .returned (.tuple #[v, .bool (mvO l dx dy)]) ∧ OwnPairs 41 w' w.heap.size v (mvL l dx dy) ∧ Below w.heap.size w w' := by
  have hbb : Below w.heap.size w ((w.alloc (.cells #[.int .i64 dx] 3)).alloc (.cells #[.int .i64 dy] 3)) := (by repeat (first | exact Below.refl _ _ | assumption | refine Below.drew ?_ | refine below_drewN ?_ _ | refine Below.alloc ?_ (by first | omega | (simp; done) | (simp; omega)) _ | refine Below.setCell ?_ (by first | omega | (simp; done) | (simp; omega)) _ | refine Below.trans ?_ (Below.mono (by assumption) (by first | omega | (simp; done) | (simp; omega)))))
  have HC := Lib.hid (chgV_any a cap l hl (ha.below hbb) dx dy w.heap.size (w.heap.size + 1) (by go_simp) (by go_simp))
  have HB := Lib.hid hbb
  clear ha hbb
  go_enter Try.func24, Try.ntmps24
  go_wp2_with (go_at_call 56; (refine (HC.out).mono ?_; rintro e w3 ⟨v3, rfl, ho3, hb3⟩; have hs3 := hb3.size; (try simp at hs3)))
  go_ret2
  exact ⟨_, rfl, own_mono ho3 (by first | omega | (simp; done) | (simp; omega)), HB.out.trans (hb3.mono (by first | omega | (simp; done) | (simp; omega)))⟩

set_option maxHeartbeats 1000000 in
theorem mirS_no (a : Option Addr) (cap : Nat) (l : List (Int × Int)) (hl : l.length ≤ 1048576) (hc : l.length ≤ cap) {w : World} (ha : PairsAt w a l) (hv : chOk l = false) :
    Calls Try.prog 27 #[.slice a l.length cap] w fun e w' => e = .returned (.tuple #[.slice none 0 0, .bool false]) ∧ Below w.heap.size w w' := by
  have HG := Lib.hid (fun (W : World) (hb : Below w.heap.size w W) => chGood_any a cap l hl hc (ha.below hb))
  rw [hv] at HG
  clear hv
  go_enter Try.func27, Try.ntmps27
  go_wp2_with (go_at_call 45; ((with_reducible refine (HG.out _ (by repeat (first | exact Below.refl _ _ | assumption | refine Below.drew ?_ | refine below_drewN ?_ _ | refine Below.alloc ?_ (by first | omega | (simp; done) | (simp; omega)) _ | refine Below.setCell ?_ (by first | omega | (simp; done) | (simp; omega)) _ | refine Below.trans ?_ (Below.mono (by assumption) (by first | omega | (simp; done) | (simp; omega)))))).mono ?_); rintro e w1 ⟨rfl, hb1⟩; have hs1 := hb1.size; (try simp at hs1)))
  go_ret2
  exact ⟨rfl, (by repeat (first | exact Below.refl _ _ | assumption | refine Below.drew ?_ | refine below_drewN ?_ _ | refine Below.alloc ?_ (by first | omega | (simp; done) | (simp; omega)) _ | refine Below.setCell ?_ (by first | omega | (simp; done) | (simp; omega)) _ | refine Below.trans ?_ (Below.mono (by assumption) (by first | omega | (simp; done) | (simp; omega)))))⟩
set_option maxRecDepth 100000 in
set_option maxHeartbeats 1600000 in
theorem mirS_yes (a : Option Addr) (cap : Nat) (l : List (Int × Int)) (hl : l.length ≤ 1048576) (hc : l.length ≤ cap) {w : World} (ha : PairsAt w a l) (hv : chOk l = true) :
    Calls Try.prog 27 #[.slice a l.length cap] w fun e w' => ∃ v, e = .returned (.tuple #[v, .bool true]) ∧ OwnPairs 41 w' w.heap.size v (mpTo gMir l l.length) ∧ Below w.heap.size w w' := by
  obtain ⟨j0, hi, hz0, hz1, hz2⟩ := info_parts Try.infoSpot
  have HI := Lib.hid hi
  have HZ0 := Lib.hid hz0
  have HZ1 := Lib.hid hz1
  have HZ2 := Lib.hid hz2
  clear hi hz0 hz1 hz2
  have HG := Lib.hid (fun (W : World) (hb : Below w.heap.size w W) => chGood_any a cap l hl hc (ha.below hb))
  rw [hv] at HG
  obtain ⟨c1, c2, c3, c4⟩ := chOk_parts hv
  have HA := Lib.hid ha
  have HON := Lib.hid c1
  have HGS := Lib.hid (fun k => mpTo_step gMir l k)
  have HGL := Lib.hid (fun k => mpTo_length gMir l k)
  obtain ⟨G, hG⟩ : ∃ G, G = mpTo gMir l := ⟨_, rfl⟩
  have h0 : G 0 = [] := by rw [hG]; rfl
  rw [← hG] at HGS HGL
  have HGE := Lib.hid hG
  have H0 := Lib.hid h0
  clear hv ha c1 hG h0
  go_enter Try.func27, Try.ntmps27
  go_wp2_with (go_at_call 45; ((with_reducible refine (HG.out _ (by repeat (first | exact Below.refl _ _ | assumption | refine Below.drew ?_ | refine below_drewN ?_ _ | refine Below.alloc ?_ (by first | omega | (simp; done) | (simp; omega)) _ | refine Below.setCell ?_ (by first | omega | (simp; done) | (simp; omega)) _ | refine Below.trans ?_ (Below.mono (by assumption) (by first | omega | (simp; done) | (simp; omega)))))).mono ?_); rintro e w1 ⟨rfl, hb1⟩; have hs1 := hb1.size; (try simp at hs1)))
  have hbw : Below w.heap.size w w1 := (by repeat (first | exact Below.refl _ _ | assumption | refine Below.drew ?_ | refine below_drewN ?_ _ | refine Below.alloc ?_ (by first | omega | (simp; done) | (simp; omega)) _ | refine Below.setCell ?_ (by first | omega | (simp; done) | (simp; omega)) _ | refine Below.trans ?_ (Below.mono (by assumption) (by first | omega | (simp; done) | (simp; omega)))))
  clear hb1
  go_loopw [4, 12] (fun ov i wr => ∃ (k : Nat) (vo : Value), k ≤ l.length ∧ i = .int .i64 k ∧ ov = vo ∧ Hid (OwnPairs 41 wr w.heap.size vo (G k)) ∧ Below w.heap.size w wr) (fun _ i _ => l.length - (intOf i).toNat)
  case atStart => exact ⟨0, _, Nat.zero_le _, rfl, rfl, Lib.hid (by rw [H0.out]; exact own_nil _ _ _), hbw⟩
  case round =>
    clear hbw
    obtain ⟨k, vo, hk, rfl, hvo, HOWN, hbr⟩ := hrel
    replace hvo := hvo.symm
    subst hvo
    have hsr := hbr.size
    by_cases hlt : k < l.length
    · obtain ⟨b, off, rfl, e0, e1⟩ := (HA.out.below hbr) k hlt
      have HK := Lib.hid (fun W => stMir_any (sx l k) (sy l k) (allOn_at HON.out k hlt) W)
      have hst := HGS.out k
      have hal := HGL.out k
      obtain ⟨acc, hacc⟩ : ∃ acc, acc = G k := ⟨_, rfl⟩
      rw [← hacc] at HOWN hst hal
      have hal9 : acc.length ≤ 12 := by omega
      obtain ⟨X, hX⟩ : ∃ X, X = sx l k := ⟨_, rfl⟩
      obtain ⟨Y, hY⟩ : ∃ Y, Y = sy l k := ⟨_, rfl⟩
      rw [← hX, ← hY] at HK hst
      rw [← hX] at e0
      rw [← hY] at e1
      obtain ⟨rx, hrx⟩ : ∃ z, z = 1280 - X := ⟨_, rfl⟩
      have hst : G (k + 1) = acc ++ [(rx, Y)] := by rw [hrx]; exact hst
      rw [← hrx] at HK
      have HST := Lib.hid hst
      have HOL := Lib.hid (World.ownsRow.lt HOWN.out)
      have HOWN2 := Lib.hid (fun (W : World) (hb : Below wr.heap.size wr W) => own_below HOWN.out hb)
      clear hacc hst hal hX hY hrx
      go_wp2_with (first | (go_at_call 59; ((with_reducible refine (HK.out _).mono ?_); rintro e w3 ⟨rfl, hb3⟩; have hs3 := hb3.size; (try simp at hs3); have hbr3 : Below wr.heap.size wr w3 := (by repeat (first | exact Below.refl _ _ | assumption | refine Below.drew ?_ | refine below_drewN ?_ _ | refine Below.alloc ?_ (by first | omega | (simp; done) | (simp; omega)) _ | refine Below.setCell ?_ (by first | omega | (simp; done) | (simp; omega)) _ | refine Below.trans ?_ (Below.mono (by assumption) (by first | omega | (simp; done) | (simp; omega))))); have hb33 : Below w.heap.size w w3 := Below.trans hbr (Below.mono hbr3 hsr))) | (at_builtin; refine wpList_append_lies _ rfl _ _ 25 rfl (w.heap.size) 41 j0 (.agg #[.int .i64 0, .int .i64 0]) 2 16 Try.underlying25 HI.out HZ0.out HZ1.out HZ2.out rfl (by omega) vo (acc.length) (pairV acc) rfl (HOWN2.out _ (Below.alloc hbr3 hbr3.size _)) ⟨_, 0, none⟩ 1 1 [.int .i64 (rx), .int .i64 (Y)] rfl rfl (World.news_of_block (cs := #[.int .i64 (rx), .int .i64 (Y)]) (t := 41) (fr := (0, 0)) (heap_alloc_new _ _)) (by simp [Value.oneCell']) (by omega) (by unfold maxLen; omega) (by omega) (by simp; omega) _ rfl ?_; intro gg cap5 w5 hown5 hgrow5 hat5 hlt5))
      have hb5 : Below w.heap.size w w5 := Below.grown (Below.alloc hb33 hb33.size _) hgrow5 (by first | (simp; omega) | omega) (fun q hq => by have := HOL.out q hq; omega)
      have hown6 : OwnPairs 41 w5 w.heap.size (.slice (some ⟨gg, 0, none⟩) (acc.length + 1) cap5) (G (k + 1)) := by rw [HST.out, OwnPairs, pairV_append, List.length_append]; simpa [pairV] using hown5
      have HO6 := Lib.hid hown6
      clear hat5 hgrow5 hown5 hown6 hb33 hbr3
      have hs5 := hb5.size
      go_wp2
      go_roundw
      case rel => exact ⟨k + 1, _, by omega, by go_num, rfl, HO6, hb5⟩
      case measure => simp [intOf]; omega
    · obtain rfl : k = l.length := by omega
      have EE : Hid (mpTo gMir l l.length = G l.length) := Lib.hid (by rw [HGE.out])
      go_wp2
      exact bodyPost_ret (v := .tuple #[vo, .bool true]) (by simp [results, Try.results27, go_sem, *]) rfl ⟨_, rfl, by rw [EE.out]; exact HOWN.out, (by repeat (first | exact Below.refl _ _ | assumption | refine Below.drew ?_ | refine below_drewN ?_ _ | refine Below.alloc ?_ (by first | omega | (simp; done) | (simp; omega)) _ | refine Below.setCell ?_ (by first | omega | (simp; done) | (simp; omega)) _ | refine Below.trans ?_ (Below.mono (by assumption) (by first | omega | (simp; done) | (simp; omega)))))⟩
theorem mirS_any (a : Option Addr) (cap : Nat) (l : List (Int × Int)) (hl : l.length ≤ 1048576) (hc : l.length ≤ cap) {w : World} (ha : PairsAt w a l) :
    Calls Try.prog 27 #[.slice a l.length cap] w fun e w' => ∃ v, e = .returned (.tuple #[v, .bool (chOk l)]) ∧ OwnPairs 41 w' w.heap.size v (mirL l) ∧ Below w.heap.size w w' := by
  cases hv : chOk l
  · have e2 : mirL l = [] := by unfold mirL; rw [if_neg (by rw [hv]; simp)]
    rw [e2]
    exact (mirS_no a cap l hl hc ha hv).mono fun e w' ⟨he, hb⟩ => ⟨_, he, own_nil _ _ _, hb⟩
  · have e2 : mirL l = mpTo gMir l l.length := by unfold mirL; rw [if_pos hv]
    rw [e2]
    exact mirS_yes a cap l hl hc ha hv

set_option maxHeartbeats 1000000 in
theorem movS_no1 (a : Option Addr) (cap : Nat) (l : List (Int × Int)) (hl : l.length ≤ 1048576) (hc : l.length ≤ cap) {w : World} (ha : PairsAt w a l) (dx dy : Int) (hv : chOk l = false) :
    Calls Try.prog 23 #[.slice a l.length cap, .int .i64 dx, .int .i64 dy] w fun e w' => e = .returned (.tuple #[.slice none 0 0, .bool false]) ∧ Below w.heap.size w w' := by
  have HG := Lib.hid (fun (W : World) (hb : Below w.heap.size w W) => chGood_any a cap l hl hc (ha.below hb))
  have HX := Lib.hid (fun W => l1In_any dx (-2000) 2000 W)
  have HY := Lib.hid (fun W => l1In_any dy (-2000) 2000 W)
  rw [hv] at HG
  clear hv
  go_enter Try.func23, Try.ntmps23
  go_wp2_with (first | (go_at_call 45; ((with_reducible refine (HG.out _ (by repeat (first | exact Below.refl _ _ | assumption | refine Below.drew ?_ | refine below_drewN ?_ _ | refine Below.alloc ?_ (by first | omega | (simp; done) | (simp; omega)) _ | refine Below.setCell ?_ (by first | omega | (simp; done) | (simp; omega)) _ | refine Below.trans ?_ (Below.mono (by assumption) (by first | omega | (simp; done) | (simp; omega)))))).mono ?_); rintro e w1 ⟨rfl, hb1⟩; have hs1 := hb1.size; (try simp at hs1))) | (go_at_call 53; ((with_reducible refine (HX.out _).mono ?_); rintro e w' ⟨rfl, rfl⟩)) | (go_at_call 53; ((with_reducible refine (HY.out _).mono ?_); rintro e w' ⟨rfl, rfl⟩)))
  go_ret2
  exact ⟨rfl, (by repeat (first | exact Below.refl _ _ | assumption | refine Below.drew ?_ | refine below_drewN ?_ _ | refine Below.alloc ?_ (by first | omega | (simp; done) | (simp; omega)) _ | refine Below.setCell ?_ (by first | omega | (simp; done) | (simp; omega)) _ | refine Below.trans ?_ (Below.mono (by assumption) (by first | omega | (simp; done) | (simp; omega)))))⟩

set_option maxHeartbeats 1000000 in
theorem movS_no2 (a : Option Addr) (cap : Nat) (l : List (Int × Int)) (hl : l.length ≤ 1048576) (hc : l.length ≤ cap) {w : World} (ha : PairsAt w a l) (dx dy : Int) (hv : chOk l = true) (h1 : inB (-2000) dx 2000 = false) :
    Calls Try.prog 23 #[.slice a l.length cap, .int .i64 dx, .int .i64 dy] w fun e w' => e = .returned (.tuple #[.slice none 0 0, .bool false]) ∧ Below w.heap.size w w' := by
  have HG := Lib.hid (fun (W : World) (hb : Below w.heap.size w W) => chGood_any a cap l hl hc (ha.below hb))
  have HX := Lib.hid (fun W => l1In_any dx (-2000) 2000 W)
  have HY := Lib.hid (fun W => l1In_any dy (-2000) 2000 W)
  rw [hv] at HG
  rw [h1] at HX
  clear hv h1
  go_enter Try.func23, Try.ntmps23
  go_wp2_with (first | (go_at_call 45; ((with_reducible refine (HG.out _ (by repeat (first | exact Below.refl _ _ | assumption | refine Below.drew ?_ | refine below_drewN ?_ _ | refine Below.alloc ?_ (by first | omega | (simp; done) | (simp; omega)) _ | refine Below.setCell ?_ (by first | omega | (simp; done) | (simp; omega)) _ | refine Below.trans ?_ (Below.mono (by assumption) (by first | omega | (simp; done) | (simp; omega)))))).mono ?_); rintro e w1 ⟨rfl, hb1⟩; have hs1 := hb1.size; (try simp at hs1))) | (go_at_call 53; ((with_reducible refine (HX.out _).mono ?_); rintro e w' ⟨rfl, rfl⟩)) | (go_at_call 53; ((with_reducible refine (HY.out _).mono ?_); rintro e w' ⟨rfl, rfl⟩)))
  go_ret2
  exact ⟨rfl, (by repeat (first | exact Below.refl _ _ | assumption | refine Below.drew ?_ | refine below_drewN ?_ _ | refine Below.alloc ?_ (by first | omega | (simp; done) | (simp; omega)) _ | refine Below.setCell ?_ (by first | omega | (simp; done) | (simp; omega)) _ | refine Below.trans ?_ (Below.mono (by assumption) (by first | omega | (simp; done) | (simp; omega)))))⟩

set_option maxHeartbeats 1000000 in
theorem movS_no3 (a : Option Addr) (cap : Nat) (l : List (Int × Int)) (hl : l.length ≤ 1048576) (hc : l.length ≤ cap) {w : World} (ha : PairsAt w a l) (dx dy : Int) (hv : chOk l = true) (h1 : inB (-2000) dx 2000 = true) (h2 : inB (-2000) dy 2000 = false) :
    Calls Try.prog 23 #[.slice a l.length cap, .int .i64 dx, .int .i64 dy] w fun e w' => e = .returned (.tuple #[.slice none 0 0, .bool false]) ∧ Below w.heap.size w w' := by
  have HG := Lib.hid (fun (W : World) (hb : Below w.heap.size w W) => chGood_any a cap l hl hc (ha.below hb))
  have HX := Lib.hid (fun W => l1In_any dx (-2000) 2000 W)
  have HY := Lib.hid (fun W => l1In_any dy (-2000) 2000 W)
  rw [hv] at HG
  rw [h1] at HX
  rw [h2] at HY
  clear hv h1 h2
  go_enter Try.func23, Try.ntmps23
  go_wp2_with (first | (go_at_call 45; ((with_reducible refine (HG.out _ (by repeat (first | exact Below.refl _ _ | assumption | refine Below.drew ?_ | refine below_drewN ?_ _ | refine Below.alloc ?_ (by first | omega | (simp; done) | (simp; omega)) _ | refine Below.setCell ?_ (by first | omega | (simp; done) | (simp; omega)) _ | refine Below.trans ?_ (Below.mono (by assumption) (by first | omega | (simp; done) | (simp; omega)))))).mono ?_); rintro e w1 ⟨rfl, hb1⟩; have hs1 := hb1.size; (try simp at hs1))) | (go_at_call 53; ((with_reducible refine (HX.out _).mono ?_); rintro e w' ⟨rfl, rfl⟩)) | (go_at_call 53; ((with_reducible refine (HY.out _).mono ?_); rintro e w' ⟨rfl, rfl⟩)))
  go_ret2
  exact ⟨rfl, (by repeat (first | exact Below.refl _ _ | assumption | refine Below.drew ?_ | refine below_drewN ?_ _ | refine Below.alloc ?_ (by first | omega | (simp; done) | (simp; omega)) _ | refine Below.setCell ?_ (by first | omega | (simp; done) | (simp; omega)) _ | refine Below.trans ?_ (Below.mono (by assumption) (by first | omega | (simp; done) | (simp; omega)))))⟩

set_option maxRecDepth 100000 in
set_option maxHeartbeats 1600000 in
theorem movS_yes (a : Option Addr) (cap : Nat) (l : List (Int × Int)) (hl : l.length ≤ 1048576) (hc : l.length ≤ cap) {w : World} (ha : PairsAt w a l) (dx dy : Int) (hv : chOk l = true) (h1 : inB (-2000) dx 2000 = true) (h2 : inB (-2000) dy 2000 = true) :
    Calls Try.prog 23 #[.slice a l.length cap, .int .i64 dx, .int .i64 dy] w fun e w' => ∃ v, e = .returned (.tuple #[v, .bool (chOk (mpTo (gMov dx dy) l l.length))]) ∧ OwnPairs 41 w' w.heap.size v (chIf (mpTo (gMov dx dy) l l.length)) ∧ Below w.heap.size w w' := by
  have HG := Lib.hid (fun (W : World) (hb : Below w.heap.size w W) => chGood_any a cap l hl hc (ha.below hb))
  have HX := Lib.hid (fun W => l1In_any dx (-2000) 2000 W)
  have HY := Lib.hid (fun W => l1In_any dy (-2000) 2000 W)
  rw [hv] at HG
  rw [h1] at HX
  rw [h2] at HY
  obtain ⟨c1, c2, c3, c4⟩ := chOk_parts hv
  have HO := Lib.hid (fun (W : World) (hb : Below w.heap.size w W) => chOwn_any a cap l (by omega) hl (ha.below hb))
  obtain ⟨x1, x2⟩ := inB_iff.1 h1
  obtain ⟨y1, y2⟩ := inB_iff.1 h2
  have HON := Lib.hid c1
  have HUL := Lib.hid (fun k => mpUp_length (gMov dx dy) l k)
  have HUR := Lib.hid (fun (k : Nat) (hk : k < l.length) => mpUp_rest (gMov dx dy) l (Nat.le_refl k) hk)
  have HUS := Lib.hid (fun k => show mpUp (gMov dx dy) l (k + 1) = (mpUp (gMov dx dy) l k).set k (sx l k + dx, sy l k + dy) from rfl)
  have HUA := Lib.hid (mpUp_all (gMov dx dy) l)
  have HCI := Lib.hid (fun W b v ho => chIfS (w := W) (base := b) (v := v) (l := mpTo (gMov dx dy) l l.length) (by rw [mpTo_length]; exact hl) ho)
  have HML := Lib.hid (mpTo_length (gMov dx dy) l l.length)
  obtain ⟨U, hU⟩ : ∃ U, U = mpUp (gMov dx dy) l := ⟨_, rfl⟩
  have h0 : U 0 = l := by rw [hU]; rfl
  rw [← hU] at HUL HUR HUS HUA
  obtain ⟨M, hM⟩ : ∃ M, M = mpTo (gMov dx dy) l l.length := ⟨_, rfl⟩
  rw [← hM] at HUA HCI HML ⊢
  have H0 := Lib.hid h0
  clear hv h1 h2 ha c1 hU h0 hM
  go_enter Try.func23, Try.ntmps23
  go_upto_region 4 with (first | (go_at_call 45; ((with_reducible refine (HG.out _ (by repeat (first | exact Below.refl _ _ | assumption | refine Below.drew ?_ | refine below_drewN ?_ _ | refine Below.alloc ?_ (by first | omega | (simp; done) | (simp; omega)) _ | refine Below.setCell ?_ (by first | omega | (simp; done) | (simp; omega)) _ | refine Below.trans ?_ (Below.mono (by assumption) (by first | omega | (simp; done) | (simp; omega)))))).mono ?_); rintro e w1 ⟨rfl, hb1⟩; have hs1 := hb1.size; (try simp at hs1))) | (go_at_call 53; ((with_reducible refine (HX.out _).mono ?_); rintro e w' ⟨rfl, rfl⟩)) | (go_at_call 53; ((with_reducible refine (HY.out _).mono ?_); rintro e w' ⟨rfl, rfl⟩)) | (go_at_call 54; ((with_reducible refine (HO.out _ (by repeat (first | exact Below.refl _ _ | assumption | refine Below.drew ?_ | refine below_drewN ?_ _ | refine Below.alloc ?_ (by first | omega | (simp; done) | (simp; omega)) _ | refine Below.setCell ?_ (by first | omega | (simp; done) | (simp; omega)) _ | refine Below.trans ?_ (Below.mono (by assumption) (by first | omega | (simp; done) | (simp; omega)))))).mono ?_); rintro e w3 ⟨v3, rfl, ho3, hb3⟩; have hs3 := hb3.size; (try simp at hs3))))
  have hB3 : Below w.heap.size w w3 := (by repeat (first | exact Below.refl _ _ | assumption | refine Below.drew ?_ | refine below_drewN ?_ _ | refine Below.alloc ?_ (by first | omega | (simp; done) | (simp; omega)) _ | refine Below.setCell ?_ (by first | omega | (simp; done) | (simp; omega)) _ | refine Below.trans ?_ (Below.mono (by assumption) (by first | omega | (simp; done) | (simp; omega)))))
  have ho := own_mono (b' := w.heap.size) ho3 (by first | omega | (simp; done) | (simp; omega))
  clear ho3 hb3 hs3 HG HO HX HY
  rcases own_formP ho with ⟨rfl, e0⟩ | ⟨g, cap', rfl, hgb, hgl⟩
  · rw [e0] at c3; exact absurd c3 (by simp)
  have hoo : w3.ownsRow w.heap.size 41 2 (.slice (some ⟨g, 0, none⟩) l.length cap') l.length (pairV (U 0)) := by rw [H0.out]; exact ho
  clear ho
  go_wp2
  go_loopw [27] (fun i wr => ∃ k : Nat, k ≤ l.length ∧ i = .int .i64 (k : Int) ∧ Hid (wr.ownsRow w.heap.size 41 2 (.slice (some ⟨g, 0, none⟩) l.length cap') l.length (pairV (U k))) ∧ Below w.heap.size w wr) (fun i _ => l.length - (intOf i).toNat)
  case atStart => exact ⟨0, Nat.zero_le _, rfl, Lib.hid hoo, hB3⟩
  case round =>
    clear hoo hB3
    obtain ⟨k, hk, rfl, HOW, hbr⟩ := hrel
    have hsr := hbr.size
    by_cases hlt : k < l.length
    · have hul := HUL.out k
      obtain ⟨d0, d1, f0, f1⟩ := own_at HOW.out (i := k) (by omega)
      rw [(HUR.out k hlt).1] at d0
      rw [(HUR.out k hlt).2] at d1
      obtain ⟨⟨o1, o2⟩, o3, o4⟩ := onField_iff.1 (allOn_at HON.out k hlt)
      have hst := own_setP HOW.out k (sx l k + dx) (sy l k + dy)
      rw [← HUS.out k] at hst
      obtain ⟨X, hX⟩ : ∃ X, X = sx l k := ⟨_, rfl⟩
      obtain ⟨Y, hY⟩ : ∃ Y, Y = sy l k := ⟨_, rfl⟩
      rw [← hX] at d0 o1 o2 hst
      rw [← hY] at d1 o3 o4 hst
      have v1 : IntKind.i64.wrap (X + dx) = X + dx := IntWalk.i64_in _ (by omega)
      have v2 : IntKind.i64.wrap (Y + dy) = Y + dy := IntWalk.i64_in _ (by omega)
      have HST := Lib.hid hst
      have i0 : (0 : Int) ≤ (k : Int) := by omega
      have i1 : (k : Int) < (l.length : Int) := by omega
      clear hst hX hY hul
      go_wp2
      go_roundw
      case rel => exact ⟨k + 1, by omega, by go_num, Lib.hid HST.out.1, gb_below hbr HST.out.2 hgb⟩
      case measure => simp [intOf]; omega
    · obtain rfl : k = l.length := by omega
      have hof : OwnPairs 41 wr w.heap.size (.slice (some ⟨g, 0, none⟩) l.length cap') M := by
        have h := HOW.out
        rw [HUA.out] at h
        unfold OwnPairs
        rw [HML.out]
        exact h
      have HOF := Lib.hid (fun (W : World) (hb : Below wr.heap.size wr W) => own_below hof hb)
      clear hof
      go_wp2_with (go_at_call 55; (refine (HCI.out _ _ _ (HOF.out _ (by repeat (first | exact Below.refl _ _ | assumption | refine Below.drew ?_ | refine below_drewN ?_ _ | refine Below.alloc ?_ (by first | omega | (simp; done) | (simp; omega)) _ | refine Below.setCell ?_ (by first | omega | (simp; done) | (simp; omega)) _ | refine Below.trans ?_ (Below.mono (by assumption) (by first | omega | (simp; done) | (simp; omega))))))).mono ?_; rintro e w4 ⟨v4, rfl, ho4, hb4⟩; have hs4 := hb4.size))
      go_ret2
      exact ⟨_, rfl, own_mono ho4 (by omega), (by repeat (first | exact Below.refl _ _ | assumption | refine Below.drew ?_ | refine below_drewN ?_ _ | refine Below.alloc ?_ (by first | omega | (simp; done) | (simp; omega)) _ | refine Below.setCell ?_ (by first | omega | (simp; done) | (simp; omega)) _ | refine Below.trans ?_ (Below.mono (by assumption) (by first | omega | (simp; done) | (simp; omega)))))⟩
theorem movS_any (a : Option Addr) (cap : Nat) (l : List (Int × Int)) (hl : l.length ≤ 1048576) (hc : l.length ≤ cap) {w : World} (ha : PairsAt w a l) (dx dy : Int) :
    Calls Try.prog 23 #[.slice a l.length cap, .int .i64 dx, .int .i64 dy] w fun e w' => ∃ v, e = .returned (.tuple #[v, .bool (mvO l dx dy)]) ∧ OwnPairs 41 w' w.heap.size v (mvL l dx dy) ∧ Below w.heap.size w w' := by
  have no : mvO l dx dy = false → Calls Try.prog 23 #[.slice a l.length cap, .int .i64 dx, .int .i64 dy] w (fun e w' => e = .returned (.tuple #[.slice none 0 0, .bool false]) ∧ Below w.heap.size w w') → Calls Try.prog 23 #[.slice a l.length cap, .int .i64 dx, .int .i64 dy] w fun e w' => ∃ v, e = .returned (.tuple #[v, .bool (mvO l dx dy)]) ∧ OwnPairs 41 w' w.heap.size v (mvL l dx dy) ∧ Below w.heap.size w w' := fun e1 h => by
    have e2 : mvL l dx dy = [] := by unfold mvL; rw [if_neg (by rw [e1]; simp)]
    rw [e1, e2]
    exact h.mono fun e w' ⟨he, hb⟩ => ⟨_, he, own_nil _ _ _, hb⟩
  cases hv : chOk l
  · exact no (by unfold mvO; rw [hv]; rfl) (movS_no1 a cap l hl hc ha dx dy hv)
  · cases h1 : inB (-2000) dx 2000
    · exact no (by rw [mv_spec hv, h1]; rfl) (movS_no2 a cap l hl hc ha dx dy hv h1)
    · cases h2 : inB (-2000) dy 2000
      · exact no (by rw [mv_spec hv, h1, h2]; rfl) (movS_no3 a cap l hl hc ha dx dy hv h1 h2)
      · have e1 : mvO l dx dy = chOk (mpTo (gMov dx dy) l l.length) := by rw [mv_spec hv, h1, h2]; rfl
        have e2 : mvL l dx dy = chIf (mpTo (gMov dx dy) l l.length) := by unfold mvL chIf; rw [e1]
        rw [e1, e2]
        exact movS_yes a cap l hl hc ha dx dy hv h1 h2

end Go.Proofs.Ytfimjfchdaioeaa
