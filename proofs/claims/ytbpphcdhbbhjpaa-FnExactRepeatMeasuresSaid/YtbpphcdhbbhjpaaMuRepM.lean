/- Repeated measures, the program's side. No conditions but those written in each theorem. -/
import Derived.Test.YtbpphcdhbbhjpaaMuRepI
import Derived.Deep.RegionHeld3
import Derived.Deep.DrawnRows
import Derived.IntWalk
namespace Go.Proofs.Ytbpphcdhbbhjpaa
open Go.RowKit


attribute [local go_sem ↓] Go.wp_at_zero Go.wp_at_succ

set_option maxHeartbeats 1000000 in
theorem repM_bad (a : Option Addr) (l : List (Int × Int)) (hl : l.length ≤ 1048576) {w : World} (ha : PairsAt w a l) (c d t : Int) (hg : musOk l = false) :
    Calls Try.prog 34 #[.slice a l.length l.length, .int .i64 c, .int .i64 d, .int .i64 t] w fun e w' => e = .returned (.tuple #[.slice none 0 0, .bool false]) ∧ Below w.heap.size w w' := by
  have HG := Lib.hid (fun (W : World) (hb : Below w.heap.size w W) => isMusic_any a l.length l hl (ha.below hb))
  skip
  all_goals
    go_enter Try.func34, Try.ntmps34
    go_wp2_with (first | (go_at_call 17; (refine (HG.out _ (by repeat (first | exact Below.refl _ _ | assumption | refine Below.drew ?_ | refine below_drewN ?_ _ | refine Below.alloc ?_ (by first | omega | (simp; done) | (simp; omega)) _ | refine Below.setCell ?_ (by first | omega | (simp; done) | (simp; omega)) _ | refine Below.trans ?_ (Below.mono (by assumption) (by first | omega | (simp; done) | (simp; omega)))))).mono ?_; rintro e w1 ⟨rfl, hb1⟩; have hs1 := hb1.size)))
    go_ret2
    exact ⟨rfl, (by repeat (first | exact Below.refl _ _ | assumption | refine Below.drew ?_ | refine below_drewN ?_ _ | refine Below.alloc ?_ (by first | omega | (simp; done) | (simp; omega)) _ | refine Below.setCell ?_ (by first | omega | (simp; done) | (simp; omega)) _ | refine Below.trans ?_ (Below.mono (by assumption) (by first | omega | (simp; done) | (simp; omega)))))⟩

set_option maxHeartbeats 1000000 in
theorem repM_no (a : Option Addr) (l : List (Int × Int)) (hm : musOk l = true) {w : World} (ha : PairsAt w a l) (c d t : Int) (hg : (spanB c d ((l.length : Int) - 1) && inB 1 t 10) = false) :
    Calls Try.prog 34 #[.slice a l.length l.length, .int .i64 c, .int .i64 d, .int .i64 t] w fun e w' => e = .returned (.tuple #[.slice none 0 0, .bool false]) ∧ Below w.heap.size w w' := by
  have hl : l.length ≤ 1048576 := by have := (musOk_len hm).2; omega
  obtain ⟨b1, b2⟩ := musOk_len hm
  have v1 : IntKind.i64.wrap ((l.length : Int) - 1) = (l.length : Int) - 1 := IntWalk.i64_in _ (by omega)
  have HG := Lib.hid (fun (W : World) (hb : Below w.heap.size w W) => isMusic_any a l.length l hl (ha.below hb))
  cases h1 : spanB c d ((l.length : Int) - 1) <;> cases h2 : inB 1 t 10
  all_goals first | (exfalso; rw [h1, h2] at hg; cases hg; done) | clear hg
  all_goals
    go_enter Try.func34, Try.ntmps34
    go_wp2_with (first | (go_at_call 17; (refine (HG.out _ (by repeat (first | exact Below.refl _ _ | assumption | refine Below.drew ?_ | refine below_drewN ?_ _ | refine Below.alloc ?_ (by first | omega | (simp; done) | (simp; omega)) _ | refine Below.setCell ?_ (by first | omega | (simp; done) | (simp; omega)) _ | refine Below.trans ?_ (Below.mono (by assumption) (by first | omega | (simp; done) | (simp; omega)))))).mono ?_; rintro e w1 ⟨rfl, hb1⟩; have hs1 := hb1.size)) | (go_at_call 56; (refine (isSpan_any _ _ _ _).mono ?_; rintro e w' ⟨rfl, rfl⟩)) | (go_at_call 43; (refine (inRange_any _ _ _ _).mono ?_; rintro e w' ⟨rfl, rfl⟩)))
    go_ret2
    exact ⟨rfl, (by repeat (first | exact Below.refl _ _ | assumption | refine Below.drew ?_ | refine below_drewN ?_ _ | refine Below.alloc ?_ (by first | omega | (simp; done) | (simp; omega)) _ | refine Below.setCell ?_ (by first | omega | (simp; done) | (simp; omega)) _ | refine Below.trans ?_ (Below.mono (by assumption) (by first | omega | (simp; done) | (simp; omega)))))⟩

theorem repM_len {l : List (Int × Int)} {p q tn : Nat} (hp : p ≤ q) (hq : q < l.length) (hl : l.length ≤ 40) (h1 : 1 ≤ tn) (ht : tn ≤ 10) : 1 ≤ (repM l p q tn).length ∧ (repM l p q tn).length ≤ 480 := by
  unfold repM partL
  rw [List.length_append, List.length_append, repsL_length]
  simp only [List.length_take, List.length_drop]
  have h2 : min (q + 1 - p) (l.length - p) = q + 1 - p := by omega
  rw [h2]
  have h3 : 1 ≤ tn * (q + 1 - p) := Nat.mul_pos h1 (by omega)
  have h4 : tn * (q + 1 - p) ≤ 10 * 40 := Nat.mul_le_mul ht (by omega)
  omega
set_option maxRecDepth 100000 in
set_option maxHeartbeats 4000000 in
theorem repM_core (a : Option Addr) (n : Nat) (l : List (Int × Int)) (hn : l.length = n) (hm : musOk l = true) {w : World} (ha : PairsAt w a l) (p q tn : Nat) (hpq : p ≤ q) (hq : q < n) (ht1 : 1 ≤ tn) (ht2 : tn ≤ 10) (bo : Bool) (hbo : bo = musOk (repM l p q tn)) (X : List (Int × Int)) (hX : X = if bo then repM l p q tn else [])
    (A3 : Addr → Addr) (C3 M3 : Nat) (hA3 : ∀ b off, A3 ⟨b, off, none⟩ = if n = q + 1 then ⟨b, off, none⟩ else ⟨b, off + (q + 1) * 2, none⟩) (hC3 : C3 = n - (q + 1)) :
    Calls Try.prog 34 #[.slice a n n, .int .i64 p, .int .i64 q, .int .i64 tn] w fun e w' => ∃ v, e = .returned (.tuple #[v, .bool bo]) ∧ OwnPairs 46 w' w.heap.size v X ∧ Below w.heap.size w w' := by
  have HBO := Lib.hid hbo
  have HX := Lib.hid hX
  clear hbo hX
  obtain ⟨b1, b2⟩ := musOk_len hm
  have hl : l.length ≤ 1048576 := by omega
  rw [hn] at b1 b2
  have v1 : IntKind.i64.wrap ((n : Int) - 1) = (n : Int) - 1 := IntWalk.i64_in _ (by omega)
  have hsp : spanB (p : Int) (q : Int) ((n : Int) - 1) = true := spanB_iff.2 ⟨by omega, by omega, by omega⟩
  have htb : inB 1 (tn : Int) 10 = true := inB_iff.2 ⟨by omega, by omega⟩
  have his := fun (W : World) (hb : Below w.heap.size w W) => isMusic_any a n l hl (ha.below hb)
  simp only [hn, hm] at his
  have HG := Lib.hid his
  obtain ⟨b, off, rfl⟩ := ha.some_of (by omega : 1 ≤ l.length)
  obtain ⟨rl1, rl2⟩ := repM_len (l := l) (p := p) (q := q) (tn := tn) hpq (by omega) (by omega) ht1 ht2
  obtain ⟨L, hL⟩ : ∃ L, L = q + 1 - p := ⟨_, rfl⟩
  obtain ⟨N, hN⟩ : ∃ N, N = tn * L := ⟨_, rfl⟩
  have hpl : (partL l p q).length = L := by unfold partL; rw [List.length_take, List.length_drop]; omega
  have hNl : N ≤ 400 := by rw [hN]; exact Nat.mul_le_mul ht2 (by omega : L ≤ 40)
  have hrep := fun (W : World) (hb : Below w.heap.size w W) => repeat_any b (off + p * 2) (n - p) (partL l p q) tn L N hpl hN.symm (by omega) ht1 (by omega) (by omega) ((ha.below hb).part p (q + 1 - p) (by omega))
  rw [hL] at hrep
  have HREP := Lib.hid hrep
  have hcon : ∀ (W : World) (g2 gs : Nat), Below w.heap.size w W → OwnPairs 46 W w.heap.size (.slice (some ⟨g2, 0, none⟩) N N) (repsL (partL l p q) tn) →
      W.heap[gs]? = some (.cells #[.slice (some ⟨b, off, none⟩) p n, .slice (some ⟨g2, 0, none⟩) N N, .slice (some (A3 ⟨b, off, none⟩)) C3 C3] 25 (0, 0)) →
      Calls Try.prog 59 #[.slice (some ⟨gs, 0, none⟩) 3 3] W fun e w' => ∃ v, e = .returned v ∧ OwnPairs 46 w' W.heap.size v (repM l p q tn) ∧ Below W.heap.size W w' := by
    intro W g2 gs hb ho hg
    have hrl : (repsL (partL l p q) tn).length = N := by rw [repsL_length, hpl, hN]
    have hcat : catX [((⟨b, off, none⟩ : Addr), n, l.take p), (⟨g2, 0, none⟩, N, repsL (partL l p q) tn), (A3 ⟨b, off, none⟩, C3, l.drop (q + 1))] 3 = repM l p q tn := by simp [catX, repM]
    have h := concat_any gs 3 3 [((⟨b, off, none⟩ : Addr), n, l.take p), (⟨g2, 0, none⟩, N, repsL (partL l p q) tn), (A3 ⟨b, off, none⟩, C3, l.drop (q + 1))] rfl (by omega) (by rw [hcat]; exact rl1) (by rw [hcat]; omega) (w := W) ?_
    · rw [hcat] at h
      exact h
    · intro i hi
      match i, hi with
      | 0, _ =>
        refine ⟨?_, fun j u hj => ?_⟩
        · show W.cell? ⟨gs, 0, none⟩ = some (.slice (some ⟨b, off, none⟩) (l.take p).length n)
          rw [List.length_take, Nat.min_eq_left (by omega)]
          simp [World.cell?, hg]
        · show W.cell? ((⟨b, off, none⟩ : Addr).add j) = some u
          rw [Addr.add_lit]
          exact pairs_cells (l := l.take p) (by have := (ha.below hb).part 0 p (by omega); simpa using this) j u hj
      | 1, _ =>
        refine ⟨?_, fun j u hj => ?_⟩
        · show W.cell? ⟨gs, 1, none⟩ = some (.slice (some ⟨g2, 0, none⟩) (repsL (partL l p q) tn).length N)
          rw [hrl]
          simp [World.cell?, hg]
        · show W.cell? ((⟨g2, 0, none⟩ : Addr).add j) = some u
          rw [Addr.add_lit]
          have ho' : OwnPairs 46 W w.heap.size (.slice (some ⟨g2, 0, none⟩) (repsL (partL l p q) tn).length N) (repsL (partL l p q) tn) := by rw [hrl]; exact ho
          exact pairs_cells (own_pairs ho') j u hj
      | 2, _ =>
        refine ⟨?_, fun j u hj => ?_⟩
        · show W.cell? ⟨gs, 2, none⟩ = some (.slice (some (A3 ⟨b, off, none⟩)) (l.drop (q + 1)).length C3)
          rw [List.length_drop, hn, ← hC3]
          simp [World.cell?, hg]
        · show W.cell? ((A3 ⟨b, off, none⟩ : Addr).add j) = some u
          rw [hA3]
          by_cases e : n = q + 1
          · have : l.drop (q + 1) = [] := List.drop_eq_nil_of_le (by omega)
            have hj2 : (pairV (l.drop (q + 1)))[j]? = some u := hj
            rw [this] at hj2
            simp [pairV] at hj2
          · rw [if_neg e, Addr.add_lit]
            exact pairs_cells (l := l.drop (q + 1)) (by have := (ha.below hb).part (q + 1) (l.length - (q + 1)) (by omega); rwa [List.take_of_length_le (by rw [List.length_drop]; exact Nat.le_refl _)] at this) j u hj
  have HCON := Lib.hid hcon
  have HGD := Lib.hid (fun (W : World) (a7 : Option Addr) (cap7 : Nat) (ha7 : PairsAt W a7 (repM l p q tn)) => isMusic_any a7 cap7 (repM l p q tn) (by omega) ha7)
  obtain ⟨rm, hrm⟩ : ∃ rm, rm = repM l p q tn := ⟨_, rfl⟩
  rw [← hrm] at HCON HGD HBO HX
  obtain ⟨a3, ha3⟩ : ∃ a3, a3 = A3 ⟨b, off, none⟩ := ⟨_, rfl⟩
  rw [← ha3] at HCON
  rw [hA3] at ha3
  clear hrm his hm hn hrep hcon hpl hN hL ha rl1 rl2
  have i0 : (0 : Int) ≤ (p : Int) := by omega
  have j0' : (0 : Int) ≤ (q : Int) + 1 := by omega
  have j1 : (p : Int) ≤ (q : Int) + 1 := by omega
  have j2 : (q : Int) + 1 ≤ (n : Int) := by omega
  have j4 : (p : Int) ≤ (n : Int) := by omega
  have j3 : IntKind.i64.wrap ((q : Int) + 1) = (q : Int) + 1 := IntWalk.i64_in _ (by omega)
  have nlp : ¬ n = p := by omega
  by_cases hqc : n = q + 1
  case' pos =>
    rw [if_pos hqc] at ha3; subst ha3; subst hC3
    have hite : ∀ (x y : Option Addr), (if n = q + 1 then x else y) = x := fun x y => if_pos hqc
    have HQC := Lib.hid hqc
    clear hqc hA3
  case' neg =>
    rw [if_neg hqc] at ha3; subst ha3; subst hC3
    clear hA3
  all_goals
    go_enter Try.func34, Try.ntmps34
    go_wp2_with (first | (go_at_call 17; (refine (HG.out _ (by repeat (first | exact Below.refl _ _ | assumption | refine Below.drew ?_ | refine below_drewN ?_ _ | refine Below.alloc ?_ (by first | omega | (simp; done) | (simp; omega)) _ | refine Below.setCell ?_ (by first | omega | (simp; done) | (simp; omega)) _ | refine Below.trans ?_ (Below.mono (by assumption) (by first | omega | (simp; done) | (simp; omega)))))).mono ?_; rintro e w1 ⟨rfl, hb1⟩; have hs1 := hb1.size)) | (go_at_call 56; (refine (isSpan_any _ _ _ _).mono ?_; rintro e w' ⟨rfl, rfl⟩)) | (go_at_call 43; (refine (inRange_any _ _ _ _).mono ?_; rintro e w' ⟨rfl, rfl⟩)))
    go_region_held3 (fun _ => True) (exact trivial)
      (first | (go_at_call 60; ((with_reducible refine (HREP.out _ (by repeat (first | exact Below.refl _ _ | assumption | refine Below.drew ?_ | refine below_drewN ?_ _ | refine Below.alloc ?_ (by first | omega | (simp; done) | (simp; omega)) _ | refine Below.setCell ?_ (by first | omega | (simp; done) | (simp; omega)) _ | refine Below.trans ?_ (Below.mono (by assumption) (by first | omega | (simp; done) | (simp; omega)))))).mono ?_); rintro e w2 ⟨rfl, ho2, hb2⟩; have hs2 := hb2.size; (try simp at hs2))) | (go_at_call 59; ((refine (HCON.out _ _ _ (by repeat (first | exact Below.refl _ _ | assumption | refine Below.drew ?_ | refine below_drewN ?_ _ | refine Below.alloc ?_ (by first | omega | (simp; done) | (simp; omega)) _ | refine Below.setCell ?_ (by first | omega | (simp; done) | (simp; omega)) _ | refine Below.trans ?_ (Below.mono (by assumption) (by first | omega | (simp; done) | (simp; omega))))) (own_mono (own_below ho2 (by repeat (first | exact Below.refl _ _ | assumption | refine Below.drew ?_ | refine below_drewN ?_ _ | refine Below.alloc ?_ (by first | omega | (simp; done) | (simp; omega)) _ | refine Below.setCell ?_ (by first | omega | (simp; done) | (simp; omega)) _ | refine Below.trans ?_ (Below.mono (by assumption) (by first | omega | (simp; done) | (simp; omega)))))) (by first | omega | (simp; omega))) (heap_alloc_new _ _)).mono ?_); rintro e w5 ⟨v5, rfl, ho5, hb5⟩; have hs5 := hb5.size)))
  all_goals
    have hbw5 : Below w.heap.size w w5 := (by repeat (first | exact Below.refl _ _ | assumption | refine Below.drew ?_ | refine below_drewN ?_ _ | refine Below.alloc ?_ (by first | omega | (simp; done) | (simp; omega)) _ | refine Below.setCell ?_ (by first | omega | (simp; done) | (simp; omega)) _ | refine Below.trans ?_ (Below.mono (by assumption) (by first | omega | (simp; done) | (simp; omega)))))
    have HO5 := Lib.hid (own_mono ho5 (by first | omega | (simp; omega)) : OwnPairs 46 w5 w.heap.size v5 rm)
    obtain ⟨a7, cap7, rfl, I7, hA7⟩ := own_viewP ho5
    have HG7 := Lib.hid (fun (W : World) (hb : Below w5.heap.size w5 W) => HGD.out W a7 cap7 (I7.below hb))
    have hs7 := hbw5.size
    clear hA7 I7 ho5 hb5 hs5 ho2 hb2 hs2
    cases hmr : musOk rm
    · rw [hmr] at HG7
      go_wp2_with (go_at_call 17; (refine (HG7.out _ (by repeat (first | exact Below.refl _ _ | assumption | refine Below.drew ?_ | refine below_drewN ?_ _ | refine Below.alloc ?_ (by first | omega | (simp; done) | (simp; omega)) _ | refine Below.setCell ?_ (by first | omega | (simp; done) | (simp; omega)) _ | refine Below.trans ?_ (Below.mono (by assumption) (by first | omega | (simp; done) | (simp; omega)))))).mono ?_); rintro e w7 ⟨rfl, hb7⟩; have hs8 := hb7.size)
      go_ret2
      exact ⟨_, by rw [HBO.out, hmr]; rfl, by rw [HX.out, HBO.out, hmr]; exact own_nil _ _ _, (by repeat (first | exact Below.refl _ _ | assumption | refine Below.drew ?_ | refine below_drewN ?_ _ | refine Below.alloc ?_ (by first | omega | (simp; done) | (simp; omega)) _ | refine Below.setCell ?_ (by first | omega | (simp; done) | (simp; omega)) _ | refine Below.trans ?_ (Below.mono (by assumption) (by first | omega | (simp; done) | (simp; omega)))))⟩
    · rw [hmr] at HG7
      go_wp2_with (go_at_call 17; (refine (HG7.out _ (by repeat (first | exact Below.refl _ _ | assumption | refine Below.drew ?_ | refine below_drewN ?_ _ | refine Below.alloc ?_ (by first | omega | (simp; done) | (simp; omega)) _ | refine Below.setCell ?_ (by first | omega | (simp; done) | (simp; omega)) _ | refine Below.trans ?_ (Below.mono (by assumption) (by first | omega | (simp; done) | (simp; omega)))))).mono ?_); rintro e w7 ⟨rfl, hb7⟩; have hs8 := hb7.size)
      go_ret2
      exact ⟨_, by rw [HBO.out, hmr]; rfl, by rw [HX.out, HBO.out, hmr]; exact own_below HO5.out hb7, (by repeat (first | exact Below.refl _ _ | assumption | refine Below.drew ?_ | refine below_drewN ?_ _ | refine Below.alloc ?_ (by first | omega | (simp; done) | (simp; omega)) _ | refine Below.setCell ?_ (by first | omega | (simp; done) | (simp; omega)) _ | refine Below.trans ?_ (Below.mono (by assumption) (by first | omega | (simp; done) | (simp; omega)))))⟩
theorem repM_any (a : Option Addr) (l : List (Int × Int)) (hl : l.length ≤ 1048576) {w : World} (ha : PairsAt w a l) (c d t : Int) :
    Calls Try.prog 34 #[.slice a l.length l.length, .int .i64 c, .int .i64 d, .int .i64 t] w fun e w' => ∃ v, e = .returned (.tuple #[v, .bool (okR l c d t)]) ∧ OwnPairs 46 w' w.heap.size v (repR l c d t) ∧ Below w.heap.size w w' := by
  cases hg : (musOk l && spanB c d ((l.length : Int) - 1)) && inB 1 t 10
  · have hk : okR l c d t = false := by unfold okR; rw [hg]; rfl
    rw [repR_no hk, hk]
    have hno : Calls Try.prog 34 #[.slice a l.length l.length, .int .i64 c, .int .i64 d, .int .i64 t] w fun e w' => e = .returned (.tuple #[.slice none 0 0, .bool false]) ∧ Below w.heap.size w w' := by
      cases hm : musOk l
      · exact repM_bad a l hl ha c d t hm
      · refine repM_no a l hm ha c d t ?_
        rw [hm] at hg
        simpa using hg
    exact hno.mono fun e w' ⟨he, hb⟩ => ⟨_, he, own_nil _ _ _, hb⟩
  · have hg2 := hg
    rw [Bool.and_eq_true, Bool.and_eq_true] at hg2
    obtain ⟨⟨hm, hs⟩, ht⟩ := hg2
    obtain ⟨s1, s2, s3⟩ := spanB_iff.1 hs
    obtain ⟨t1, t2⟩ := inB_iff.1 ht
    have h := repM_core a l.length l rfl hm ha c.toNat d.toNat t.toNat (by omega) (by omega) (by omega) (by omega) _ rfl _ rfl (fun x => if l.length = d.toNat + 1 then x else ⟨x.block, x.off + (d.toNat + 1) * 2, none⟩) (l.length - (d.toNat + 1)) 0 (fun b off => rfl) rfl
    rw [Int.toNat_of_nonneg s1, Int.toNat_of_nonneg (by omega), Int.toNat_of_nonneg (by omega)] at h
    have hk : okR l c d t = musOk (repM l c.toNat d.toNat t.toNat) := by unfold okR; rw [hg]; rfl
    unfold repR
    rw [hk]
    exact h

end Go.Proofs.Ytbpphcdhbbhjpaa
