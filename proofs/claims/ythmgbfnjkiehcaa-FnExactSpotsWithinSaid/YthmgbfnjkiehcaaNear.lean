/- The nearest of a list of spots: what each call does. No conditions but those written in each theorem. -/
import Derived.Test.YthmgbfnjkiehcaaSpotsb
import Derived.Deep.RegionHeld3
import Derived.Deep.DrawnRows
namespace Go.Proofs.Ythmgbfnjkiehcaa
open Go.RowKit


attribute [local go_sem ↓] Go.wp_at_zero Go.wp_at_succ

/-- The nearest of the first k spots. -/
def nb (x y : Int) (l : List (Int × Int)) : Nat → Nat
  | 0 => 0
  | k + 1 => if sqr x y (sx l k) (sy l k) < sqr x y (sx l (nb x y l k)) (sy l (nb x y l k)) then k else nb x y l k
theorem nb_lt (x y : Int) (l : List (Int × Int)) (h : 0 < l.length) : ∀ k, k ≤ l.length → nb x y l k < l.length
  | 0, _ => h
  | k + 1, hk => by
    have := nb_lt x y l h k (by omega)
    unfold nb
    split <;> omega
theorem nb_yes {x y : Int} {l : List (Int × Int)} {k : Nat} (h : sqr x y (sx l k) (sy l k) < sqr x y (sx l (nb x y l k)) (sy l (nb x y l k))) : nb x y l (k + 1) = k := by show (if _ then _ else _) = _; rw [if_pos h]
theorem nb_no {x y : Int} {l : List (Int × Int)} {k : Nat} (h : ¬ sqr x y (sx l k) (sy l k) < sqr x y (sx l (nb x y l k)) (sy l (nb x y l k))) : nb x y l (k + 1) = nb x y l k := by show (if _ then _ else _) = _; rw [if_neg h]
def canNear (x y : Int) (l : List (Int × Int)) : Bool := onField x y && okList l && decide (0 < l.length)
theorem okList_parts {l : List (Int × Int)} (h : okList l = true) : allOn l = true ∧ l.length ≤ 40 := by
  unfold okList at h
  rw [Bool.and_eq_true, decide_eq_true_eq] at h
  exact h

set_option maxHeartbeats 1000000 in
theorem specNearest_no (x y : Int) (a : Option Addr) (cap : Nat) (l : List (Int × Int)) (hl : l.length ≤ 1048576) {w : World} (ha : SpotsAt w a l) (hv : canNear x y l = false) :
    Calls Try.prog 28 #[.agg #[.int .i64 x, .int .i64 y], .slice a l.length cap] w fun e w' => e = .returned (.tuple #[.int .i64 0, .bool false]) ∧ Below w.heap.size w w' := by
  have hcl := fun (W : World) (hb : Below w.heap.size w W) => stList_any a cap l hl (ha.below hb)
  have Hcl := Lib.hid hcl
  clear hcl
  obtain ⟨q1, q2, q3, q4, q5, q6, q7⟩ := nadd
  cases h1 : onField x y <;> cases h2 : okList l <;> by_cases h3 : 0 < l.length
  all_goals first | (exfalso; unfold canNear at hv; rw [h1, h2, decide_eq_true h3] at hv; cases hv; done) | clear hv
  all_goals
    have z0 := h3
    go_enter Try.func28, Try.ntmps28
    go_wp2_with (first | (go_at_call 42; (refine (stGood_any _ _ _).mono ?_; rintro e w1 ⟨rfl, hb1⟩; have hs1 := hb1.size; (try simp at hs1); obtain ⟨hcn, hfn, hln⟩ := bcellN (w.heap.size + 1) hb1 (by first | omega | (simp; done) | (simp; omega)); have hz0 : w.heap.size < w1.heap.size := (by omega); (first | have hk4 := call_facts hl3 hb1 (by simp) | skip); (first | have hk3 := call_facts hl2 hb1 (by simp) | skip); (first | have hk2 := call_facts hl1 hb1 (by simp) | skip); have hk1 := call_facts (fun b h => h) hb1 (Nat.le_refl _); (first | have hl4 := hk4.1 | skip); (first | have hl3 := hk3.1 | skip); (first | have hl2 := hk2.1 | skip); have hl1 := hk1.1)) | (go_at_call 51; (refine (Hcl.out _ (by repeat (first | exact Below.refl _ _ | assumption | refine Below.drew ?_ | refine below_drewN ?_ _ | refine Below.alloc ?_ (by first | omega | (simp; done) | (simp; omega)) _ | refine Below.setCell ?_ (by first | omega | (simp; done) | (simp; omega)) _ | refine Below.trans ?_ (Below.mono (by assumption) (by first | omega | (simp; done) | (simp; omega)))))).mono ?_; rintro e w1 ⟨rfl, hb1⟩; have hs1 := hb1.size; (try simp at hs1); obtain ⟨hcn, hfn, hln⟩ := bcellN (w.heap.size + 1) hb1 (by first | omega | (simp; done) | (simp; omega)); have hz0 : w.heap.size < w1.heap.size := (by omega); (first | have hk4 := call_facts hl3 hb1 (by simp) | skip); (first | have hk3 := call_facts hl2 hb1 (by simp) | skip); (first | have hk2 := call_facts hl1 hb1 (by simp) | skip); have hk1 := call_facts (fun b h => h) hb1 (Nat.le_refl _); (first | have hl4 := hk4.1 | skip); (first | have hl3 := hk3.1 | skip); (first | have hl2 := hk2.1 | skip); have hl1 := hk1.1)))
    go_ret2
    exact ⟨rfl, (by repeat (first | exact Below.refl _ _ | assumption | refine Below.drew ?_ | refine below_drewN ?_ _ | refine Below.alloc ?_ (by first | omega | (simp; done) | (simp; omega)) _ | refine Below.setCell ?_ (by first | omega | (simp; done) | (simp; omega)) _ | refine Below.trans ?_ (Below.mono (by assumption) (by first | omega | (simp; done) | (simp; omega)))))⟩

set_option maxHeartbeats 1000000 in
theorem nearest_no (x y : Int) (a : Option Addr) (cap : Nat) (l : List (Int × Int)) (hl : l.length ≤ 1048576) {w : World} (ha : SpotsAt w a l) (hv : canNear x y l = false) :
    Calls Try.prog 30 #[.agg #[.int .i64 x, .int .i64 y], .slice a l.length cap] w fun e w' => e = .returned (.tuple #[.int .i64 0, .bool false]) ∧ Below w.heap.size w w' := by
  have hcl := fun (W : World) (hb : Below w.heap.size w W) => areSpots_any a cap l hl (ha.below hb)
  have Hcl := Lib.hid hcl
  clear hcl
  obtain ⟨q1, q2, q3, q4, q5, q6, q7⟩ := nadd
  cases h1 : onField x y <;> cases h2 : okList l <;> by_cases h3 : 0 < l.length
  all_goals first | (exfalso; unfold canNear at hv; rw [h1, h2, decide_eq_true h3] at hv; cases hv; done) | clear hv
  all_goals
    have z0 := h3
    go_enter Try.func30, Try.ntmps30
    go_wp2_with (first | (go_at_call 15; (refine (isSpot_any _ _ _).mono ?_; rintro e w1 ⟨rfl, hb1⟩; have hs1 := hb1.size; (try simp at hs1); obtain ⟨hcn, hfn, hln⟩ := bcellN (w.heap.size + 2) hb1 (by first | omega | (simp; done) | (simp; omega)); have hz0 : w.heap.size < w1.heap.size := (by omega); have hz1 : w.heap.size + 1 < w1.heap.size := (by omega); (first | have hk4 := call_facts hl3 hb1 (by simp) | skip); (first | have hk3 := call_facts hl2 hb1 (by simp) | skip); (first | have hk2 := call_facts hl1 hb1 (by simp) | skip); have hk1 := call_facts (fun b h => h) hb1 (Nat.le_refl _); (first | have hl4 := hk4.1 | skip); (first | have hl3 := hk3.1 | skip); (first | have hl2 := hk2.1 | skip); have hl1 := hk1.1)) | (go_at_call 52; (refine (Hcl.out _ (by repeat (first | exact Below.refl _ _ | assumption | refine Below.drew ?_ | refine below_drewN ?_ _ | refine Below.alloc ?_ (by first | omega | (simp; done) | (simp; omega)) _ | refine Below.setCell ?_ (by first | omega | (simp; done) | (simp; omega)) _ | refine Below.trans ?_ (Below.mono (by assumption) (by first | omega | (simp; done) | (simp; omega)))))).mono ?_; rintro e w1 ⟨rfl, hb1⟩; have hs1 := hb1.size; (try simp at hs1); obtain ⟨hcn, hfn, hln⟩ := bcellN (w.heap.size + 2) hb1 (by first | omega | (simp; done) | (simp; omega)); have hz0 : w.heap.size < w1.heap.size := (by omega); have hz1 : w.heap.size + 1 < w1.heap.size := (by omega); (first | have hk4 := call_facts hl3 hb1 (by simp) | skip); (first | have hk3 := call_facts hl2 hb1 (by simp) | skip); (first | have hk2 := call_facts hl1 hb1 (by simp) | skip); have hk1 := call_facts (fun b h => h) hb1 (Nat.le_refl _); (first | have hl4 := hk4.1 | skip); (first | have hl3 := hk3.1 | skip); (first | have hl2 := hk2.1 | skip); have hl1 := hk1.1)))
    go_ret2
    exact ⟨rfl, (by repeat (first | exact Below.refl _ _ | assumption | refine Below.drew ?_ | refine below_drewN ?_ _ | refine Below.alloc ?_ (by first | omega | (simp; done) | (simp; omega)) _ | refine Below.setCell ?_ (by first | omega | (simp; done) | (simp; omega)) _ | refine Below.trans ?_ (Below.mono (by assumption) (by first | omega | (simp; done) | (simp; omega)))))⟩

set_option maxHeartbeats 2000000 in
theorem specNearest_yes (x y : Int) (a : Option Addr) (cap : Nat) (l : List (Int × Int)) (hl : l.length ≤ 1048576) {w : World} (ha : SpotsAt w a l) (h1 : onField x y = true) (h2 : okList l = true) (h3 : 0 < l.length) :
    Calls Try.prog 28 #[.agg #[.int .i64 x, .int .i64 y], .slice a l.length cap] w fun e w' => e = .returned (.tuple #[.int .i64 (nb x y l l.length : Nat), .bool true]) ∧ Below w.heap.size w w' := by
  have hcl := fun (W : World) (hb : Below w.heap.size w W) => stList_any a cap l hl (ha.below hb)
  have Hcl := Lib.hid hcl
  clear hcl
  have hall := (okList_parts h2).1
  have Hall := Lib.hid (allOn_at hall)
  clear hall
  obtain ⟨q1, q2, q3, q4, q5, q6, q7⟩ := nadd
  have z0 := h3
  have z1 : ((l.length : Int) == 0) = false := beq_eq_false_iff_ne.2 (by omega)
  go_enter Try.func28, Try.ntmps28
  go_wp2_with (first | (go_at_call 42; (refine (stGood_any _ _ _).mono ?_; rintro e w1 ⟨rfl, hb1⟩; have hs1 := hb1.size; (try simp at hs1); obtain ⟨hcn, hfn, hln⟩ := bcellN (w.heap.size + 1) hb1 (by first | omega | (simp; done) | (simp; omega)); have hz0 : w.heap.size < w1.heap.size := (by omega); (first | have hk4 := call_facts hl3 hb1 (by simp) | skip); (first | have hk3 := call_facts hl2 hb1 (by simp) | skip); (first | have hk2 := call_facts hl1 hb1 (by simp) | skip); have hk1 := call_facts (fun b h => h) hb1 (Nat.le_refl _); (first | have hl4 := hk4.1 | skip); (first | have hl3 := hk3.1 | skip); (first | have hl2 := hk2.1 | skip); have hl1 := hk1.1)) | (go_at_call 51; (refine (Hcl.out _ (by repeat (first | exact Below.refl _ _ | assumption | refine Below.drew ?_ | refine below_drewN ?_ _ | refine Below.alloc ?_ (by first | omega | (simp; done) | (simp; omega)) _ | refine Below.setCell ?_ (by first | omega | (simp; done) | (simp; omega)) _ | refine Below.trans ?_ (Below.mono (by assumption) (by first | omega | (simp; done) | (simp; omega)))))).mono ?_; rintro e w1 ⟨rfl, hb1⟩; have hs1 := hb1.size; (try simp at hs1); obtain ⟨hcn, hfn, hln⟩ := bcellN (w.heap.size + 1) hb1 (by first | omega | (simp; done) | (simp; omega)); have hz0 : w.heap.size < w1.heap.size := (by omega); (first | have hk4 := call_facts hl3 hb1 (by simp) | skip); (first | have hk3 := call_facts hl2 hb1 (by simp) | skip); (first | have hk2 := call_facts hl1 hb1 (by simp) | skip); have hk1 := call_facts (fun b h => h) hb1 (Nat.le_refl _); (first | have hl4 := hk4.1 | skip); (first | have hl3 := hk3.1 | skip); (first | have hl2 := hk2.1 | skip); have hl1 := hk1.1)))
  go_loopw [6, 24] (fun bst i wr => ∃ k : Nat, k ≤ l.length ∧ i = .int .i64 k ∧ bst = .int .i64 (nb x y l k : Nat) ∧ wr.cell? ⟨w.heap.size, 0, none⟩ = some (.int .i64 x) ∧ wr.cell? ⟨w.heap.size, 1, none⟩ = some (.int .i64 y) ∧ Below w.heap.size w wr ∧ w.heap.size < wr.heap.size) (fun _ i _ => l.length - (intOf i).toNat)
  case atStart => exact ⟨0, Nat.zero_le _, rfl, rfl, by go_simp, by go_simp, (by repeat (first | exact Below.refl _ _ | assumption | refine Below.drew ?_ | refine below_drewN ?_ _ | refine Below.alloc ?_ (by first | omega | (simp; done) | (simp; omega)) _ | refine Below.setCell ?_ (by first | omega | (simp; done) | (simp; omega)) _ | refine Below.trans ?_ (Below.mono (by assumption) (by first | omega | (simp; done) | (simp; omega))))), (by first | omega | (simp; done) | (simp; omega))⟩
  case round =>
    obtain ⟨k, hk, rfl, rfl, c0, c1, hbr, hz⟩ := hrel
    have hsr := hbr.size
    have hm := nb_lt x y l h3 k hk
    by_cases hlt : k < l.length
    · obtain ⟨b, off, rfl, c2, c3⟩ := (ha.below hbr) k hlt
      obtain ⟨b', off', hbb, c4, c5⟩ := (ha.below hbr) _ hm
      simp only [Option.some.injEq, Addr.mk.injEq] at hbb
      obtain ⟨hb1', hb2', _⟩ := hbb
      subst hb1' hb2'
      have ok1 := Lib.hid (Hall.out k hlt)
      have ok2 := Lib.hid (Hall.out _ hm)
      have i0 : (0 : Int) ≤ (nb x y l k : Int) := by omega
      have i1 : (nb x y l k : Int) < (l.length : Int) := by omega
      have n4 := World.new_ne wr _ c4
      have n0 := World.new_ne wr _ c0
      have lb := World.block_lt_of_cell? wr _ c4
      have lb' : b ≠ wr.heap.size := Nat.ne_of_lt lb
      clear hl1 hl2 hk1 hk2 hcn hfn hln hz0
      have hl1 : ∀ b, b < wr.heap.size → b < wr.heap.size := fun _ h => h
      have hk0 := base_facts wr
      by_cases hc : sqr x y (sx l k) (sy l k) < sqr x y (sx l (nb x y l k)) (sy l (nb x y l k))
      all_goals
        first | (have hnb := nb_yes hc) | (have hnb := nb_no hc)
        have Hnb := Lib.hid hnb
        clear hnb
        go_wp2_with fail
        go_region_held3 (fun w' => w'.cell? ⟨wr.heap.size, 0, none⟩ = some (.int .i64 (sx l k)) ∧ w'.cell? ⟨wr.heap.size, 1, none⟩ = some (.int .i64 (sy l k)) ∧ w'.cell? ⟨w.heap.size, 0, none⟩ = some (.int .i64 x) ∧ w'.cell? ⟨w.heap.size, 1, none⟩ = some (.int .i64 y) ∧ w'.cell? ⟨b, off + nb x y l k * 2, none⟩ = some (.int .i64 (sx l (nb x y l k))) ∧ w'.cell? ⟨b, off + nb x y l k * 2 + 1, none⟩ = some (.int .i64 (sy l (nb x y l k)))) (refine ⟨?_, ?_, ?_, ?_, ?_, ?_⟩ <;> first | (go_keep; done) | (simp [*, World.cell?_alloc_past, World.cell?_setCell_far]; done) | (simp [*, World.cell?_alloc_past, World.cell?_alloc_at, World.cell?_setCell_far]; done) | (go_simp; done))
          (first | (go_at_call 45; ((with_reducible refine (stSquare_any _ _ (sx l k) (sy l k) h1 ok1.out _).mono ?_); rintro e w1 ⟨rfl, hb1⟩; have hs1 := hb1.size; (try simp at hs1); (first | have hk4 := call_facts hl3 hb1 (by simp) | skip); (first | have hk3 := call_facts hl2 hb1 (by simp) | skip); (first | have hk2 := call_facts hl1 hb1 (by simp) | skip); have hk1 := call_facts (fun b h => h) hb1 (Nat.le_refl _); (first | have hl4 := hk4.1 | skip); (first | have hl3 := hk3.1 | skip); (first | have hl2 := hk2.1 | skip); have hl1 := hk1.1)) | (go_at_call 45; ((with_reducible refine (stSquare_any _ _ (sx l (nb x y l k)) (sy l (nb x y l k)) h1 ok2.out _).mono ?_); rintro e w1 ⟨rfl, hb1⟩; have hs1 := hb1.size; (try simp at hs1); (first | have hk4 := call_facts hl3 hb1 (by simp) | skip); (first | have hk3 := call_facts hl2 hb1 (by simp) | skip); (first | have hk2 := call_facts hl1 hb1 (by simp) | skip); have hk1 := call_facts (fun b h => h) hb1 (Nat.le_refl _); (first | have hl4 := hk4.1 | skip); (first | have hl3 := hk3.1 | skip); (first | have hl2 := hk2.1 | skip); have hl1 := hk1.1)))
        go_wp2
        go_roundw
        case rel => exact ⟨k + 1, by omega, by go_num, by rw [Hnb.out], by go_simp, by go_simp, (by repeat (first | exact Below.refl _ _ | assumption | refine Below.drew ?_ | refine below_drewN ?_ _ | refine Below.alloc ?_ (by first | omega | (simp; done) | (simp; omega)) _ | refine Below.setCell ?_ (by first | omega | (simp; done) | (simp; omega)) _ | refine Below.trans ?_ (Below.mono (by assumption) (by first | omega | (simp; done) | (simp; omega))))), (by first | omega | (simp; done) | (simp; omega))⟩
        case measure => simp [intOf]; omega
    · obtain rfl : k = l.length := by omega
      go_wp2
      go_ret2
      exact ⟨rfl, (by repeat (first | exact Below.refl _ _ | assumption | refine Below.drew ?_ | refine below_drewN ?_ _ | refine Below.alloc ?_ (by first | omega | (simp; done) | (simp; omega)) _ | refine Below.setCell ?_ (by first | omega | (simp; done) | (simp; omega)) _ | refine Below.trans ?_ (Below.mono (by assumption) (by first | omega | (simp; done) | (simp; omega)))))⟩

set_option maxHeartbeats 2000000 in
theorem nearer_any (x y : Int) (a : Option Addr) (cap : Nat) (l : List (Int × Int)) (hl : l.length ≤ 1048576) (k m p q : Nat) (hk : k < l.length) (hm : m < l.length) (h1 : onField x y = true) (h2 : okList l = true)
    {w : World} (ha : SpotsAt w a l) (c0 : w.cell? ⟨p, 0, none⟩ = some (.int .i64 x)) (c1 : w.cell? ⟨p, 1, none⟩ = some (.int .i64 y)) (c2 : w.cell? ⟨q, 0, none⟩ = some (.slice a l.length cap)) :
    Calls Try.prog 53 #[.int .i64 k, .int .i64 m, .pointer (some ⟨p, 0, none⟩), .pointer (some ⟨q, 0, none⟩)] w fun e w' => e = .returned (.bool (decide (sqr x y (sx l k) (sy l k) < sqr x y (sx l m) (sy l m)))) ∧ Below w.heap.size w w' := by
  have hall := (okList_parts h2).1
  have ok1 := Lib.hid (allOn_at hall k hk)
  have ok2 := Lib.hid (allOn_at hall m hm)
  clear hall h2
  obtain ⟨q1, q2, q3, q4, q5, q6, q7⟩ := nadd
  obtain ⟨b, off, rfl, c3, c4⟩ := ha k hk
  obtain ⟨b', off', hbb, c5, c6⟩ := ha m hm
  simp only [Option.some.injEq, Addr.mk.injEq] at hbb
  obtain ⟨hb1', hb2', _⟩ := hbb
  subst hb1' hb2'
  have i0 : (0 : Int) ≤ (k : Int) := by omega
  have i1 : (k : Int) < (l.length : Int) := by omega
  have i2 : (0 : Int) ≤ (m : Int) := by omega
  have i3 : (m : Int) < (l.length : Int) := by omega
  have l0 := World.block_lt_of_cell? w _ c0
  have l2 := World.block_lt_of_cell? w _ c2
  have l3 := World.block_lt_of_cell? w _ c3
  have hl1 : ∀ b, b < w.heap.size → b < w.heap.size := fun _ h => h
  have hk0 := base_facts w
  clear ha
  go_enter Try.func53, Try.ntmps53
  go_wp2
  go_region_held3 (fun w' => w'.cell? ⟨p, 0, none⟩ = some (.int .i64 x) ∧ w'.cell? ⟨p, 1, none⟩ = some (.int .i64 y) ∧ w'.cell? ⟨q, 0, none⟩ = some (.slice (some ⟨b, off, none⟩) l.length cap) ∧ w'.cell? ⟨b, off + k * 2, none⟩ = some (.int .i64 (sx l k)) ∧ w'.cell? ⟨b, off + k * 2 + 1, none⟩ = some (.int .i64 (sy l k)) ∧ w'.cell? ⟨b, off + m * 2, none⟩ = some (.int .i64 (sx l m)) ∧ w'.cell? ⟨b, off + m * 2 + 1, none⟩ = some (.int .i64 (sy l m))) (refine ⟨?_, ?_, ?_, ?_, ?_, ?_, ?_⟩ <;> first | (go_keep; done) | (simp [*, World.cell?_alloc_past, World.cell?_setCell_far]; done) | (simp [*, World.cell?_alloc_past, World.cell?_alloc_at, World.cell?_setCell_far]; done) | (go_simp; done))
    (first | (go_at_call 46; ((with_reducible refine (squareBetween_any _ _ (sx l k) (sy l k) h1 ok1.out _).mono ?_); rintro e w1 ⟨rfl, hb1⟩; have hs1 := hb1.size; (try simp at hs1); (first | have hk4 := call_facts hl3 hb1 (by simp) | skip); (first | have hk3 := call_facts hl2 hb1 (by simp) | skip); (first | have hk2 := call_facts hl1 hb1 (by simp) | skip); have hk1 := call_facts (fun b h => h) hb1 (Nat.le_refl _); (first | have hl4 := hk4.1 | skip); (first | have hl3 := hk3.1 | skip); (first | have hl2 := hk2.1 | skip); have hl1 := hk1.1)) | (go_at_call 46; ((with_reducible refine (squareBetween_any _ _ (sx l m) (sy l m) h1 ok2.out _).mono ?_); rintro e w1 ⟨rfl, hb1⟩; have hs1 := hb1.size; (try simp at hs1); (first | have hk4 := call_facts hl3 hb1 (by simp) | skip); (first | have hk3 := call_facts hl2 hb1 (by simp) | skip); (first | have hk2 := call_facts hl1 hb1 (by simp) | skip); have hk1 := call_facts (fun b h => h) hb1 (Nat.le_refl _); (first | have hl4 := hk4.1 | skip); (first | have hl3 := hk3.1 | skip); (first | have hl2 := hk2.1 | skip); have hl1 := hk1.1)))
  go_wp2
  go_ret
  exact ⟨rfl, (by repeat (first | exact Below.refl _ _ | assumption | refine Below.drew ?_ | refine below_drewN ?_ _ | refine Below.alloc ?_ (by first | omega | (simp; done) | (simp; omega)) _ | refine Below.setCell ?_ (by first | omega | (simp; done) | (simp; omega)) _ | refine Below.trans ?_ (Below.mono (by assumption) (by first | omega | (simp; done) | (simp; omega)))))⟩

set_option maxHeartbeats 2000000 in
theorem nearest_yes (x y : Int) (a : Option Addr) (cap : Nat) (l : List (Int × Int)) (hl : l.length ≤ 1048576) {w : World} (ha : SpotsAt w a l) (h1 : onField x y = true) (h2 : okList l = true) (h3 : 0 < l.length) :
    Calls Try.prog 30 #[.agg #[.int .i64 x, .int .i64 y], .slice a l.length cap] w fun e w' => e = .returned (.tuple #[.int .i64 (nb x y l l.length : Nat), .bool true]) ∧ Below w.heap.size w w' := by
  have hcl := fun (W : World) (hb : Below w.heap.size w W) => areSpots_any a cap l hl (ha.below hb)
  have Hcl := Lib.hid hcl
  clear hcl
  obtain ⟨q1, q2, q3, q4, q5, q6, q7⟩ := nadd
  have z0 := h3
  have z1 : ((l.length : Int) == 0) = false := beq_eq_false_iff_ne.2 (by omega)
  go_enter Try.func30, Try.ntmps30
  go_wp2_with (first | (go_at_call 15; (refine (isSpot_any _ _ _).mono ?_; rintro e w1 ⟨rfl, hb1⟩; have hs1 := hb1.size; (try simp at hs1); obtain ⟨hcn, hfn, hln⟩ := bcellN (w.heap.size + 2) hb1 (by first | omega | (simp; done) | (simp; omega)); have hz0 : w.heap.size < w1.heap.size := (by omega); have hz1 : w.heap.size + 1 < w1.heap.size := (by omega); (first | have hk4 := call_facts hl3 hb1 (by simp) | skip); (first | have hk3 := call_facts hl2 hb1 (by simp) | skip); (first | have hk2 := call_facts hl1 hb1 (by simp) | skip); have hk1 := call_facts (fun b h => h) hb1 (Nat.le_refl _); (first | have hl4 := hk4.1 | skip); (first | have hl3 := hk3.1 | skip); (first | have hl2 := hk2.1 | skip); have hl1 := hk1.1)) | (go_at_call 52; (refine (Hcl.out _ (by repeat (first | exact Below.refl _ _ | assumption | refine Below.drew ?_ | refine below_drewN ?_ _ | refine Below.alloc ?_ (by first | omega | (simp; done) | (simp; omega)) _ | refine Below.setCell ?_ (by first | omega | (simp; done) | (simp; omega)) _ | refine Below.trans ?_ (Below.mono (by assumption) (by first | omega | (simp; done) | (simp; omega)))))).mono ?_; rintro e w1 ⟨rfl, hb1⟩; have hs1 := hb1.size; (try simp at hs1); obtain ⟨hcn, hfn, hln⟩ := bcellN (w.heap.size + 2) hb1 (by first | omega | (simp; done) | (simp; omega)); have hz0 : w.heap.size < w1.heap.size := (by omega); have hz1 : w.heap.size + 1 < w1.heap.size := (by omega); (first | have hk4 := call_facts hl3 hb1 (by simp) | skip); (first | have hk3 := call_facts hl2 hb1 (by simp) | skip); (first | have hk2 := call_facts hl1 hb1 (by simp) | skip); have hk1 := call_facts (fun b h => h) hb1 (Nat.le_refl _); (first | have hl4 := hk4.1 | skip); (first | have hl3 := hk3.1 | skip); (first | have hl2 := hk2.1 | skip); have hl1 := hk1.1)))
  go_loopw [7, 25] (fun bst i wr => ∃ k : Nat, k ≤ l.length ∧ i = .int .i64 k ∧ bst = .int .i64 (nb x y l k : Nat) ∧ wr.cell? ⟨w.heap.size, 0, none⟩ = some (.int .i64 x) ∧ wr.cell? ⟨w.heap.size, 1, none⟩ = some (.int .i64 y) ∧ wr.cell? ⟨w.heap.size + 1, 0, none⟩ = some (.slice a l.length cap) ∧ Below w.heap.size w wr ∧ w.heap.size + 1 < wr.heap.size) (fun _ i _ => l.length - (intOf i).toNat)
  case atStart => exact ⟨0, Nat.zero_le _, rfl, rfl, by go_simp, by go_simp, by go_simp, (by repeat (first | exact Below.refl _ _ | assumption | refine Below.drew ?_ | refine below_drewN ?_ _ | refine Below.alloc ?_ (by first | omega | (simp; done) | (simp; omega)) _ | refine Below.setCell ?_ (by first | omega | (simp; done) | (simp; omega)) _ | refine Below.trans ?_ (Below.mono (by assumption) (by first | omega | (simp; done) | (simp; omega))))), (by first | omega | (simp; done) | (simp; omega))⟩
  case round =>
    obtain ⟨k, hk, rfl, rfl, c0, c1, c2, hbr, hz⟩ := hrel
    have hsr := hbr.size
    have hm := nb_lt x y l h3 k hk
    clear hl1 hl2 hk1 hk2 hcn hfn hln hz0 hz1
    by_cases hlt : k < l.length
    · have hne := nearer_any x y a cap l hl k (nb x y l k) w.heap.size (w.heap.size + 1) hlt hm h1 h2 (ha.below hbr) c0 c1 c2
      have Hne := Lib.hid hne
      clear hne
      have lz : w.heap.size < wr.heap.size := by omega
      by_cases hc : sqr x y (sx l k) (sy l k) < sqr x y (sx l (nb x y l k)) (sy l (nb x y l k))
      all_goals
        first | (have hnb := nb_yes hc) | (have hnb := nb_no hc)
        have Hnb := Lib.hid hnb
        clear hnb
        go_wp2_with (go_at_call 53; (refine Hne.out.mono ?_; rintro e w1 ⟨rfl, hb1⟩; have hs1 := hb1.size; (try simp at hs1); (first | have hk4 := call_facts hl3 hb1 (by simp) | skip); (first | have hk3 := call_facts hl2 hb1 (by simp) | skip); (first | have hk2 := call_facts hl1 hb1 (by simp) | skip); have hk1 := call_facts (fun b h => h) hb1 (Nat.le_refl _); (first | have hl4 := hk4.1 | skip); (first | have hl3 := hk3.1 | skip); (first | have hl2 := hk2.1 | skip); have hl1 := hk1.1))
        go_roundw
        case rel => exact ⟨k + 1, by omega, by go_num, by rw [Hnb.out], by go_simp, by go_simp, by go_simp, (by repeat (first | exact Below.refl _ _ | assumption | refine Below.drew ?_ | refine below_drewN ?_ _ | refine Below.alloc ?_ (by first | omega | (simp; done) | (simp; omega)) _ | refine Below.setCell ?_ (by first | omega | (simp; done) | (simp; omega)) _ | refine Below.trans ?_ (Below.mono (by assumption) (by first | omega | (simp; done) | (simp; omega))))), (by first | omega | (simp; done) | (simp; omega))⟩
        case measure => simp [intOf]; omega
    · obtain rfl : k = l.length := by omega
      go_wp2
      go_ret2
      exact ⟨rfl, (by repeat (first | exact Below.refl _ _ | assumption | refine Below.drew ?_ | refine below_drewN ?_ _ | refine Below.alloc ?_ (by first | omega | (simp; done) | (simp; omega)) _ | refine Below.setCell ?_ (by first | omega | (simp; done) | (simp; omega)) _ | refine Below.trans ?_ (Below.mono (by assumption) (by first | omega | (simp; done) | (simp; omega)))))⟩

/-- NearestOf's answers. -/
def nearN (x y : Int) (l : List (Int × Int)) : Int := guardI (canNear x y l) (nb x y l l.length : Nat)

theorem specNearest_any (x y : Int) (a : Option Addr) (cap : Nat) (l : List (Int × Int)) (hl : l.length ≤ 1048576) {w : World} (ha : SpotsAt w a l) :
    Calls Try.prog 28 #[.agg #[.int .i64 x, .int .i64 y], .slice a l.length cap] w fun e w' => e = .returned (.tuple #[.int .i64 (nearN x y l), .bool (canNear x y l)]) ∧ Below w.heap.size w w' := by
  cases hv : canNear x y l
  · have e0 : nearN x y l = 0 := by unfold nearN; rw [hv]; rfl
    rw [e0]
    exact specNearest_no x y a cap l hl ha hv
  · have e0 : nearN x y l = (nb x y l l.length : Nat) := by unfold nearN; rw [hv]; rfl
    rw [e0]
    unfold canNear at hv
    simp only [Bool.and_eq_true, decide_eq_true_eq] at hv
    exact specNearest_yes x y a cap l hl ha hv.1.1 hv.1.2 hv.2

theorem nearest_any (x y : Int) (a : Option Addr) (cap : Nat) (l : List (Int × Int)) (hl : l.length ≤ 1048576) {w : World} (ha : SpotsAt w a l) :
    Calls Try.prog 30 #[.agg #[.int .i64 x, .int .i64 y], .slice a l.length cap] w fun e w' => e = .returned (.tuple #[.int .i64 (nearN x y l), .bool (canNear x y l)]) ∧ Below w.heap.size w w' := by
  cases hv : canNear x y l
  · have e0 : nearN x y l = 0 := by unfold nearN; rw [hv]; rfl
    rw [e0]
    exact nearest_no x y a cap l hl ha hv
  · have e0 : nearN x y l = (nb x y l l.length : Nat) := by unfold nearN; rw [hv]; rfl
    rw [e0]
    unfold canNear at hv
    simp only [Bool.and_eq_true, decide_eq_true_eq] at hv
    exact nearest_yes x y a cap l hl ha hv.1.1 hv.1.2 hv.2

end Go.Proofs.Ythmgbfnjkiehcaa
