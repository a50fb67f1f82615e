/- Places on arcs, both sides. Conditions: those written in each theorem. -/
import Derived.Test.YtjdpbjpeohdoiaaArTwo
import Derived.Deep.RegionHeld3
import Derived.Deep.DrawnRows
import Derived.IntWalk
import Derived.StillTailTactics
namespace Go.Proofs.Ytjdpbjpeohdoiaa
open Go.RowKit


attribute [local go_sem ↓] Go.wp_at_zero Go.wp_at_succ

theorem arc_bound {r t : Int} (h1 : 1 ≤ r) (h2 : r ≤ 1400) (h3 : -r ≤ t) (h4 : t ≤ r) : 0 ≤ t * t ∧ t * t ≤ 1960000 ∧ 0 ≤ r * r ∧ r * r ≤ 1960000 ∧ 0 ≤ r * r - t * t := by
  obtain ⟨a1, a2⟩ := sq_bound (a := t) (m := 1400) (by omega) (by omega)
  obtain ⟨a3, a4⟩ := sq_bound (a := t) (m := r) h3 h4
  obtain ⟨b1, b2⟩ := sq_bound (a := r) (m := 1400) (by omega) (by omega)
  omega
/-- The way in Y of the place of an arc. -/
def arcY (r t : Int) : Int := rt (r * r - t * t)
def onK (x y r t : Int) : Bool := arOk x y r && inB (-r) t r && onField (x + t) (y + arcY r t)
theorem arcY_bound {r t : Int} (h1 : 1 ≤ r) (h2 : r ≤ 1400) (h3 : -r ≤ t) (h4 : t ≤ r) : 0 ≤ arcY r t ∧ arcY r t ≤ 3162 := by
  obtain ⟨b1, b2, b3, b4, b5⟩ := arc_bound h1 h2 h3 h4
  exact rt_max b5 (by omega)

set_option maxHeartbeats 2000000 in
theorem placeOnArc_any (x y r t : Int) (x1 : -4000 ≤ x) (x2 : x ≤ 4000) (y1 : -4000 ≤ y) (y2 : y ≤ 4000) (r1 : 1 ≤ r) (r2 : r ≤ 1400) (t1 : -r ≤ t) (t2 : t ≤ r) (w : World) :
    Calls Try.prog 48 #[.agg #[.int .i64 x, .int .i64 y], .int .i64 r, .int .i64 t] w fun e w' => e = .returned (.agg #[.int .i64 (x + t), .int .i64 (y + arcY r t)]) ∧ Below w.heap.size w w' := by
  have hY : arcY r t = rt (r * r - t * t) := rfl
  rw [hY]
  clear hY
  obtain ⟨b1, b2, b3, b4, b5⟩ := arc_bound r1 r2 t1 t2
  have v1 : IntKind.i64.wrap (r * r) = r * r := IntWalk.i64_in _ (by omega)
  have v2 : IntKind.i64.wrap (t * t) = t * t := IntWalk.i64_in _ (by omega)
  have v3 : IntKind.i64.wrap (r * r - t * t) = r * r - t * t := IntWalk.i64_in _ (by omega)
  have v4 : IntKind.i64.wrap (x + t) = x + t := IntWalk.i64_in _ (by omega)
  obtain ⟨T, hT⟩ : ∃ T, T = rt (r * r - t * t) := ⟨_, rfl⟩
  have hT9 := rt_max (n := r * r - t * t) b5 (by omega)
  rw [← hT] at hT9
  have v5 : IntKind.i64.wrap (y + T) = y + T := IntWalk.i64_in _ (by omega)
  rw [← hT]
  have hWR := fun W => wholeRoot_any (r * r - t * t) b5 (by omega) W
  rw [← hT] at hWR
  have HWR := Lib.hid hWR
  clear hWR hT
  go_enter Try.func48, Try.ntmps48
  go_wp2_with fail
  refine wp_region_still_tail 16 (by kernel_rfl) (by kernel_rfl) ?_
  simp only [List.take_succ_cons, List.take_zero, List.drop_succ_cons, List.drop_zero]
  change wpStill _ _ (World.drew _) _ _ _
  repeat (first | still_step | (still_call ((HWR.out _).mono (fun _ _ h => ⟨h.1, h.2.symm⟩))))
  refine wpStill_nil ?_
  change wpList _ _ _ _ _ (World.drew _)
  go_wp2
  first | exact bodyPost_ret (v := .agg #[.int .i64 (x + t), .int .i64 (y + T)]) (by simp [results, Try.results48, go_sem, *]) rfl ⟨rfl, (by repeat (first | exact Below.refl _ _ | assumption | refine Below.drew ?_ | refine below_drewN ?_ _ | refine Below.alloc ?_ (by first | omega | (simp; done) | (simp; omega)) _ | refine Below.setCell ?_ (by first | omega | (simp; done) | (simp; omega)) _ | refine Below.trans ?_ (Below.mono (by assumption) (by first | omega | (simp; done) | (simp; omega)))))⟩

set_option maxHeartbeats 2000000 in
theorem specOnArc_no (x y r t : Int) (hk : (arOk x y r && inB (-r) t r) = false) (w : World) :
    Calls Try.prog 15 #[.agg #[.int .i64 x, .int .i64 y], .int .i64 r, .int .i64 t] w fun e w' => e = .returned (.tuple #[.agg #[.int .i64 0, .int .i64 0], .bool false]) ∧ Below w.heap.size w w' := by
  obtain ⟨q1, q2, q3, q4, q5, q6, q7⟩ := nadd
  cases h1 : arOk x y r <;> cases h2 : inB (-r) t r
  case' true.false => obtain ⟨o1, r1, r2⟩ := arOk_parts h1
  all_goals first | (exfalso; rw [h1, h2] at hk; cases hk; done) | clear hk
  all_goals
    go_enter Try.func15, Try.ntmps15
    go_wp2_with (first | (go_at_call 44; (refine (arGood_any _ _ _ _).mono ?_; rintro e w1 ⟨rfl, hb1⟩; have hs1 := hb1.size; (try simp at hs1); obtain ⟨hcn, hfn, hln⟩ := bcellN (w.heap.size + 1) hb1 (by first | omega | (simp; done) | (simp; omega)); have hz0 : w.heap.size < w1.heap.size := (by omega); (first | have hk4 := call_facts hl3 hb1 (by simp) | skip); (first | have hk3 := call_facts hl2 hb1 (by simp) | skip); (first | have hk2 := call_facts hl1 hb1 (by simp) | skip); have hk1 := call_facts (fun b h => h) hb1 (Nat.le_refl _); (first | have hl4 := hk4.1 | skip); (first | have hl3 := hk3.1 | skip); (first | have hl2 := hk2.1 | skip); have hl1 := hk1.1)) | (go_at_call 40; (refine (l1In_any _ _ _ _).mono ?_; rintro e w' ⟨rfl, rfl⟩)))
    first | (go_ret2; exact ⟨rfl, (by repeat (first | exact Below.refl _ _ | assumption | refine Below.drew ?_ | refine below_drewN ?_ _ | refine Below.alloc ?_ (by first | omega | (simp; done) | (simp; omega)) _ | refine Below.setCell ?_ (by first | omega | (simp; done) | (simp; omega)) _ | refine Below.trans ?_ (Below.mono (by assumption) (by first | omega | (simp; done) | (simp; omega)))))⟩) | exact bodyPost_ret (v := .tuple #[.agg #[.int .i64 0, .int .i64 0], .bool false]) (by simp [results, Try.results15, go_sem, *]) rfl ⟨rfl, (by repeat (first | exact Below.refl _ _ | assumption | refine Below.drew ?_ | refine below_drewN ?_ _ | refine Below.alloc ?_ (by first | omega | (simp; done) | (simp; omega)) _ | refine Below.setCell ?_ (by first | omega | (simp; done) | (simp; omega)) _ | refine Below.trans ?_ (Below.mono (by assumption) (by first | omega | (simp; done) | (simp; omega)))))⟩

set_option maxHeartbeats 4000000 in
theorem specOnArc_yes (x y r t : Int) (h1 : arOk x y r = true) (h2 : inB (-r) t r = true) (w : World) :
    Calls Try.prog 15 #[.agg #[.int .i64 x, .int .i64 y], .int .i64 r, .int .i64 t] w fun e w' => e = .returned (.tuple #[.agg #[.int .i64 (guardI (onField (x + t) (y + arcY r t)) (x + t)), .int .i64 (guardI (onField (x + t) (y + arcY r t)) (y + arcY r t))], .bool (onField (x + t) (y + arcY r t))]) ∧ Below w.heap.size w w' := by
  obtain ⟨q1, q2, q3, q4, q5, q6, q7⟩ := nadd
  obtain ⟨o1, r1, r2⟩ := arOk_parts h1
  obtain ⟨t1, t2⟩ := inB_iff.1 h2
  obtain ⟨⟨x1, x2⟩, y1, y2⟩ := onField_iff.1 o1
  have hPL := fun W => placeOnArc_any x y r t (by omega) (by omega) (by omega) (by omega) r1 r2 t1 t2 W
  have hY : arcY r t = rt (r * r - t * t) := rfl
  rw [hY] at hPL ⊢
  clear hY
  obtain ⟨b1, b2, b3, b4, b5⟩ := arc_bound r1 r2 t1 t2
  have v1 : IntKind.i64.wrap (r * r) = r * r := IntWalk.i64_in _ (by omega)
  have v2 : IntKind.i64.wrap (t * t) = t * t := IntWalk.i64_in _ (by omega)
  have v3 : IntKind.i64.wrap (r * r - t * t) = r * r - t * t := IntWalk.i64_in _ (by omega)
  have v4 : IntKind.i64.wrap (x + t) = x + t := IntWalk.i64_in _ (by omega)
  obtain ⟨T, hT⟩ : ∃ T, T = rt (r * r - t * t) := ⟨_, rfl⟩
  have hT9 := rt_max (n := r * r - t * t) b5 (by omega)
  rw [← hT] at hT9
  have v5 : IntKind.i64.wrap (y + T) = y + T := IntWalk.i64_in _ (by omega)
  have hAR := fun W => arRoot_any (r * r - t * t) b5 (by omega) W
  rw [← hT] at hAR hPL ⊢
  have HAR := Lib.hid hAR
  have HPL := Lib.hid hPL
  have hIF := fun W => stIf_any (x + t) (y + T) W
  obtain ⟨P, hP⟩ : ∃ z, z = guardI (onField (x + t) (y + T)) (x + t) := ⟨_, rfl⟩
  obtain ⟨Q, hQ⟩ : ∃ z, z = guardI (onField (x + t) (y + T)) (y + T) := ⟨_, rfl⟩
  obtain ⟨K, hK⟩ : ∃ z, z = onField (x + t) (y + T) := ⟨_, rfl⟩
  simp only [← hP, ← hQ] at hIF ⊢
  simp only [← hK] at hIF ⊢
  have HIF := Lib.hid hIF
  clear hAR hT hPL hIF hP hQ hK
  go_enter Try.func15, Try.ntmps15
  go_wp2_with (first | (go_at_call 44; (refine (arGood_any _ _ _ _).mono ?_; rintro e w1 ⟨rfl, hb1⟩; have hs1 := hb1.size; (try simp at hs1); obtain ⟨hcn, hfn, hln⟩ := bcellN (w.heap.size + 1) hb1 (by first | omega | (simp; done) | (simp; omega)); have hz0 : w.heap.size < w1.heap.size := (by omega); (first | have hk4 := call_facts hl3 hb1 (by simp) | skip); (first | have hk3 := call_facts hl2 hb1 (by simp) | skip); (first | have hk2 := call_facts hl1 hb1 (by simp) | skip); have hk1 := call_facts (fun b h => h) hb1 (Nat.le_refl _); (first | have hl4 := hk4.1 | skip); (first | have hl3 := hk3.1 | skip); (first | have hl2 := hk2.1 | skip); have hl1 := hk1.1)) | (go_at_call 40; (refine (l1In_any _ _ _ _).mono ?_; rintro e w' ⟨rfl, rfl⟩)))
  go_region_held3 (fun w' => w'.cell? ⟨w.heap.size, 0, none⟩ = some (.int .i64 x) ∧ w'.cell? ⟨w.heap.size, 1, none⟩ = some (.int .i64 y)) (refine ⟨?_, ?_⟩ <;> first | (go_keep; done) | (simp [*, World.cell?_alloc_past, World.cell?_setCell_far]; done) | (simp [*, World.cell?_alloc_past, World.cell?_alloc_at, World.cell?_setCell_far]; done) | (go_simp; done))
    (first | (go_at_call 41; (refine (HAR.out _).mono ?_; rintro e w' ⟨rfl, rfl⟩)) | (go_at_call 45; (refine (HIF.out _).mono ?_; rintro e w1 ⟨rfl, hb1⟩; have hs1 := hb1.size; (try simp at hs1); (first | have hk4 := call_facts hl3 hb1 (by simp) | skip); (first | have hk3 := call_facts hl2 hb1 (by simp) | skip); (first | have hk2 := call_facts hl1 hb1 (by simp) | skip); have hk1 := call_facts (fun b h => h) hb1 (Nat.le_refl _); (first | have hl4 := hk4.1 | skip); (first | have hl3 := hk3.1 | skip); (first | have hl2 := hk2.1 | skip); have hl1 := hk1.1)))
  all_goals
    go_wp2_with fail
    first | exact bodyPost_ret (v := .tuple #[.agg #[.int .i64 P, .int .i64 Q], .bool K]) (by simp [results, Try.results15, go_sem, *]) rfl ⟨rfl, (by repeat (first | exact Below.refl _ _ | assumption | refine Below.drew ?_ | refine below_drewN ?_ _ | refine Below.alloc ?_ (by first | omega | (simp; done) | (simp; omega)) _ | refine Below.setCell ?_ (by first | omega | (simp; done) | (simp; omega)) _ | refine Below.trans ?_ (Below.mono (by assumption) (by first | omega | (simp; done) | (simp; omega)))))⟩
theorem specOnArc_any (x y r t : Int) (w : World) :
    Calls Try.prog 15 #[.agg #[.int .i64 x, .int .i64 y], .int .i64 r, .int .i64 t] w fun e w' => e = .returned (.tuple #[.agg #[.int .i64 (guardI (onK x y r t) (x + t)), .int .i64 (guardI (onK x y r t) (y + arcY r t))], .bool (onK x y r t)]) ∧ Below w.heap.size w w' := by
  cases hk : (arOk x y r && inB (-r) t r)
  · rw [show onK x y r t = false by unfold onK; rw [hk]; rfl]
    exact specOnArc_no x y r t hk w
  · rw [show onK x y r t = onField (x + t) (y + arcY r t) by unfold onK; rw [hk]; rfl]
    rw [Bool.and_eq_true] at hk
    exact specOnArc_yes x y r t hk.1 hk.2 w

set_option maxHeartbeats 2000000 in
theorem onArc_no (x y r t : Int) (hk : (arOk x y r && inB (-r) t r) = false) (w : World) :
    Calls Try.prog 17 #[.agg #[.int .i64 x, .int .i64 y], .int .i64 r, .int .i64 t] w fun e w' => e = .returned (.tuple #[.agg #[.int .i64 0, .int .i64 0], .bool false]) ∧ Below w.heap.size w w' := by
  obtain ⟨q1, q2, q3, q4, q5, q6, q7⟩ := nadd
  cases h1 : arOk x y r <;> cases h2 : inB (-r) t r
  case' true.false => obtain ⟨o1, r1, r2⟩ := arOk_parts h1
  all_goals first | (exfalso; rw [h1, h2] at hk; cases hk; done) | clear hk
  all_goals
    go_enter Try.func17, Try.ntmps17
    go_wp2_with (first | (go_at_call 46; (refine (isArc_any _ _ _ _).mono ?_; rintro e w1 ⟨rfl, hb1⟩; have hs1 := hb1.size; (try simp at hs1); obtain ⟨hcn, hfn, hln⟩ := bcellN (w.heap.size + 1) hb1 (by first | omega | (simp; done) | (simp; omega)); have hz0 : w.heap.size < w1.heap.size := (by omega); (first | have hk4 := call_facts hl3 hb1 (by simp) | skip); (first | have hk3 := call_facts hl2 hb1 (by simp) | skip); (first | have hk2 := call_facts hl1 hb1 (by simp) | skip); have hk1 := call_facts (fun b h => h) hb1 (Nat.le_refl _); (first | have hl4 := hk4.1 | skip); (first | have hl3 := hk3.1 | skip); (first | have hl2 := hk2.1 | skip); have hl1 := hk1.1)) | (go_at_call 42; (refine (inRange_any _ _ _ _).mono ?_; rintro e w' ⟨rfl, rfl⟩)))
    first | (go_ret2; exact ⟨rfl, (by repeat (first | exact Below.refl _ _ | assumption | refine Below.drew ?_ | refine below_drewN ?_ _ | refine Below.alloc ?_ (by first | omega | (simp; done) | (simp; omega)) _ | refine Below.setCell ?_ (by first | omega | (simp; done) | (simp; omega)) _ | refine Below.trans ?_ (Below.mono (by assumption) (by first | omega | (simp; done) | (simp; omega)))))⟩) | exact bodyPost_ret (v := .tuple #[.agg #[.int .i64 0, .int .i64 0], .bool false]) (by simp [results, Try.results17, go_sem, *]) rfl ⟨rfl, (by repeat (first | exact Below.refl _ _ | assumption | refine Below.drew ?_ | refine below_drewN ?_ _ | refine Below.alloc ?_ (by first | omega | (simp; done) | (simp; omega)) _ | refine Below.setCell ?_ (by first | omega | (simp; done) | (simp; omega)) _ | refine Below.trans ?_ (Below.mono (by assumption) (by first | omega | (simp; done) | (simp; omega)))))⟩

set_option maxHeartbeats 4000000 in
theorem onArc_yes (x y r t : Int) (h1 : arOk x y r = true) (h2 : inB (-r) t r = true) (w : World) :
    Calls Try.prog 17 #[.agg #[.int .i64 x, .int .i64 y], .int .i64 r, .int .i64 t] w fun e w' => e = .returned (.tuple #[.agg #[.int .i64 (guardI (onField (x + t) (y + arcY r t)) (x + t)), .int .i64 (guardI (onField (x + t) (y + arcY r t)) (y + arcY r t))], .bool (onField (x + t) (y + arcY r t))]) ∧ Below w.heap.size w w' := by
  obtain ⟨q1, q2, q3, q4, q5, q6, q7⟩ := nadd
  obtain ⟨o1, r1, r2⟩ := arOk_parts h1
  obtain ⟨t1, t2⟩ := inB_iff.1 h2
  obtain ⟨⟨x1, x2⟩, y1, y2⟩ := onField_iff.1 o1
  have hPL := fun W => placeOnArc_any x y r t (by omega) (by omega) (by omega) (by omega) r1 r2 t1 t2 W
  have hY : arcY r t = rt (r * r - t * t) := rfl
  rw [hY] at hPL ⊢
  clear hY
  obtain ⟨b1, b2, b3, b4, b5⟩ := arc_bound r1 r2 t1 t2
  have v1 : IntKind.i64.wrap (r * r) = r * r := IntWalk.i64_in _ (by omega)
  have v2 : IntKind.i64.wrap (t * t) = t * t := IntWalk.i64_in _ (by omega)
  have v3 : IntKind.i64.wrap (r * r - t * t) = r * r - t * t := IntWalk.i64_in _ (by omega)
  have v4 : IntKind.i64.wrap (x + t) = x + t := IntWalk.i64_in _ (by omega)
  obtain ⟨T, hT⟩ : ∃ T, T = rt (r * r - t * t) := ⟨_, rfl⟩
  have hT9 := rt_max (n := r * r - t * t) b5 (by omega)
  rw [← hT] at hT9
  have v5 : IntKind.i64.wrap (y + T) = y + T := IntWalk.i64_in _ (by omega)
  have hAR := fun W => arRoot_any (r * r - t * t) b5 (by omega) W
  rw [← hT] at hAR hPL ⊢
  have HAR := Lib.hid hAR
  have HPL := Lib.hid hPL
  have hIF := fun W => spotOf_any (x + t) (y + T) W
  obtain ⟨P, hP⟩ : ∃ z, z = guardI (onField (x + t) (y + T)) (x + t) := ⟨_, rfl⟩
  obtain ⟨Q, hQ⟩ : ∃ z, z = guardI (onField (x + t) (y + T)) (y + T) := ⟨_, rfl⟩
  obtain ⟨K, hK⟩ : ∃ z, z = onField (x + t) (y + T) := ⟨_, rfl⟩
  simp only [← hP, ← hQ] at hIF ⊢
  simp only [← hK] at hIF ⊢
  have HIF := Lib.hid hIF
  clear hAR hT hPL hIF hP hQ hK
  go_enter Try.func17, Try.ntmps17
  go_wp2_with (first | (go_at_call 46; (refine (isArc_any _ _ _ _).mono ?_; rintro e w1 ⟨rfl, hb1⟩; have hs1 := hb1.size; (try simp at hs1); obtain ⟨hcn, hfn, hln⟩ := bcellN (w.heap.size + 1) hb1 (by first | omega | (simp; done) | (simp; omega)); have hz0 : w.heap.size < w1.heap.size := (by omega); (first | have hk4 := call_facts hl3 hb1 (by simp) | skip); (first | have hk3 := call_facts hl2 hb1 (by simp) | skip); (first | have hk2 := call_facts hl1 hb1 (by simp) | skip); have hk1 := call_facts (fun b h => h) hb1 (Nat.le_refl _); (first | have hl4 := hk4.1 | skip); (first | have hl3 := hk3.1 | skip); (first | have hl2 := hk2.1 | skip); have hl1 := hk1.1)) | (go_at_call 42; (refine (inRange_any _ _ _ _).mono ?_; rintro e w' ⟨rfl, rfl⟩)) | (go_at_call 48; (refine (HPL.out _).mono ?_; rintro e w1 ⟨rfl, hb1⟩; have hs1 := hb1.size; (try simp at hs1); (first | have hk4 := call_facts hl3 hb1 (by simp) | skip); (first | have hk3 := call_facts hl2 hb1 (by simp) | skip); (first | have hk2 := call_facts hl1 hb1 (by simp) | skip); have hk1 := call_facts (fun b h => h) hb1 (Nat.le_refl _); (first | have hl4 := hk4.1 | skip); (first | have hl3 := hk3.1 | skip); (first | have hl2 := hk2.1 | skip); have hl1 := hk1.1)) | (go_at_call 47; (refine (HIF.out _).mono ?_; rintro e w1 ⟨rfl, hb1⟩; have hs1 := hb1.size; (try simp at hs1); (first | have hk4 := call_facts hl3 hb1 (by simp) | skip); (first | have hk3 := call_facts hl2 hb1 (by simp) | skip); (first | have hk2 := call_facts hl1 hb1 (by simp) | skip); have hk1 := call_facts (fun b h => h) hb1 (Nat.le_refl _); (first | have hl4 := hk4.1 | skip); (first | have hl3 := hk3.1 | skip); (first | have hl2 := hk2.1 | skip); have hl1 := hk1.1)))
  first | exact bodyPost_ret (v := .tuple #[.agg #[.int .i64 P, .int .i64 Q], .bool K]) (by simp [results, Try.results17, go_sem, *]) rfl ⟨rfl, (by repeat (first | exact Below.refl _ _ | assumption | refine Below.drew ?_ | refine below_drewN ?_ _ | refine Below.alloc ?_ (by first | omega | (simp; done) | (simp; omega)) _ | refine Below.setCell ?_ (by first | omega | (simp; done) | (simp; omega)) _ | refine Below.trans ?_ (Below.mono (by assumption) (by first | omega | (simp; done) | (simp; omega)))))⟩
theorem onArc_any (x y r t : Int) (w : World) :
    Calls Try.prog 17 #[.agg #[.int .i64 x, .int .i64 y], .int .i64 r, .int .i64 t] w fun e w' => e = .returned (.tuple #[.agg #[.int .i64 (guardI (onK x y r t) (x + t)), .int .i64 (guardI (onK x y r t) (y + arcY r t))], .bool (onK x y r t)]) ∧ Below w.heap.size w w' := by
  cases hk : (arOk x y r && inB (-r) t r)
  · rw [show onK x y r t = false by unfold onK; rw [hk]; rfl]
    exact onArc_no x y r t hk w
  · rw [show onK x y r t = onField (x + t) (y + arcY r t) by unfold onK; rw [hk]; rfl]
    rw [Bool.and_eq_true] at hk
    exact onArc_yes x y r t hk.1 hk.2 w

end Go.Proofs.Ytjdpbjpeohdoiaa
