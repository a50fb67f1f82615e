/- The other side's reading of the text of a spot. No conditions but those written in each theorem. -/
import Derived.Test.YtagfleajkalgiaaStReadS
import Derived.Test.YtagfleajkalgiaaStTextS
import Derived.Test.YtagfleajkalgiaaStParseI
import Derived.Deep.RegionHeld3
import Derived.Deep.DrawnRows
import Derived.IntWalk
import Derived.Deep.DeepCutAuto
namespace Go.Proofs.Ytagfleajkalgiaa
open Go.RowKit


attribute [local go_sem ↓] Go.wp_at_zero Go.wp_at_succ
theorem split_one {b : UInt8} {l p : List UInt8} (h : splitL b l = [p]) : b ∉ l := by
  intro hm
  have := splitL_two hm
  rw [h] at this
  simp at this
theorem split_cons {b : UInt8} {l p : List UInt8} {t : List (List UInt8)} {q : List UInt8} (h : splitL b l = p :: q :: t) : ∃ m, l = p ++ b :: m ∧ b ∉ p ∧ splitL b m = q :: t := by
  by_cases hm : b ∈ l
  · obtain ⟨p', m, rfl, hp⟩ := spl_cut b l hm
    rw [splitL_some hp] at h
    injection h with h1 h2
    subst h1
    exact ⟨m, rfl, hp, h2⟩
  · rw [splitL_none hm] at h
    simp at h
theorem split_one_eq {b : UInt8} {l p : List UInt8} (h : splitL b l = [p]) : l = p := by
  rw [splitL_none (split_one h)] at h
  injection h
theorem okS_no {l : List UInt8} (p q : List UInt8) (hl : l = p ++ 44 :: q) (hp : (44 : UInt8) ∉ p) (h : readP p < 0 ∨ readP q < 0 ∨ onField (readP p) (readP q) = false) : okS l = false := by
  subst hl
  rw [okS_some hp]
  rcases h with h | h | h
  · rw [okP_no (l := p) (by omega)]; rfl
  · rw [okP_no (l := q) (by omega), Bool.and_false]; rfl
  · rw [h, Bool.and_false]
theorem okS_yes {l : List UInt8} (p q : List UInt8) (hl : l = p ++ 44 :: q) (hp : (44 : UInt8) ∉ p) (h : onField (readP p) (readP q) = true) : okS l = true := by
  subst hl
  obtain ⟨⟨a1, a2⟩, a3, a4⟩ := onField_iff.1 h
  rw [okS_some hp, okP_iff.2 ⟨a1, by omega⟩, okP_iff.2 ⟨a3, by omega⟩, h]
  rfl

set_option maxHeartbeats 1000000 in
theorem stParse_one (l : List UInt8) {p : List UInt8} (hl : l.length ≤ 1048576) (h : splitL 44 l = [p])  (w : World) :
    Calls Try.prog 52 #[.string (bs l)] w fun e w' => e = .returned (.tuple #[.agg #[.int .i64 0, .int .i64 0], .bool false]) ∧ Below w.heap.size w w' := by
  have HS := Lib.hid (l1Split_form l 44 44 rfl hl h rfl)
  simp only [List.length_cons, List.length_nil] at HS

  obtain ⟨q1, q2, q3, q4, q5, q6, q7⟩ := nadd
  go_enter Try.func52, Try.ntmps52
  go_wp2_with (first | (go_at_call 51; (refine (HS.out _).mono ?_; rintro e w1 ⟨g, cap, rfl, hg, hgl, hcell, hb1⟩; clear hcell; have hs1 := hb1.size; (try simp at hs1); obtain ⟨hcn, hfn, hln⟩ := bcellN (w.heap.size + 1) hb1 (by first | omega | (simp; done) | (simp; omega)); have hz0 : w.heap.size < w1.heap.size := (by omega); (first | have hk4 := call_facts hl3 hb1 (by simp) | skip); (first | have hk3 := call_facts hl2 hb1 (by simp) | skip); (first | have hk2 := call_facts hl1 hb1 (by simp) | skip); have hk1 := call_facts (fun b h => h) hb1 (Nat.le_refl _); (first | have hl4 := hk4.1 | skip); (first | have hl3 := hk3.1 | skip); (first | have hl2 := hk2.1 | skip); have hl1 := hk1.1)))
  first | exact bodyPost_ret (v := .tuple #[.agg #[.int .i64 0, .int .i64 0], .bool false]) (by simp [results, Try.results52, go_sem, *]) rfl ⟨rfl, (by repeat (first | exact Below.refl _ _ | assumption | refine Below.drew ?_ | refine below_drewN ?_ _ | refine Below.alloc ?_ (by first | omega | (simp; done) | (simp; omega)) _ | refine Below.setCell ?_ (by first | omega | (simp; done) | (simp; omega)) _ | refine Below.trans ?_ (Below.mono (by assumption) (by first | omega | (simp; done) | (simp; omega)))))⟩

set_option maxHeartbeats 1000000 in
theorem stParse_more (l : List UInt8) {p q r : List UInt8} {t : List (List UInt8)} (hl : l.length ≤ 1048576) (h : splitL 44 l = p :: q :: r :: t)  (w : World) :
    Calls Try.prog 52 #[.string (bs l)] w fun e w' => e = .returned (.tuple #[.agg #[.int .i64 0, .int .i64 0], .bool false]) ∧ Below w.heap.size w w' := by
  have HS := Lib.hid (l1Split_form l 44 44 rfl hl h rfl)
  simp only [List.length_cons, List.length_nil] at HS
  have v1 : (((t.length : Int) + 1 + 1 + 1) == 2) = false := by rw [beq_eq_false_iff_ne]; omega
  obtain ⟨q1, q2, q3, q4, q5, q6, q7⟩ := nadd
  go_enter Try.func52, Try.ntmps52
  go_wp2_with (first | (go_at_call 51; (refine (HS.out _).mono ?_; rintro e w1 ⟨g, cap, rfl, hg, hgl, hcell, hb1⟩; clear hcell; have hs1 := hb1.size; (try simp at hs1); obtain ⟨hcn, hfn, hln⟩ := bcellN (w.heap.size + 1) hb1 (by first | omega | (simp; done) | (simp; omega)); have hz0 : w.heap.size < w1.heap.size := (by omega); (first | have hk4 := call_facts hl3 hb1 (by simp) | skip); (first | have hk3 := call_facts hl2 hb1 (by simp) | skip); (first | have hk2 := call_facts hl1 hb1 (by simp) | skip); have hk1 := call_facts (fun b h => h) hb1 (Nat.le_refl _); (first | have hl4 := hk4.1 | skip); (first | have hl3 := hk3.1 | skip); (first | have hl2 := hk2.1 | skip); have hl1 := hk1.1)))
  first | exact bodyPost_ret (v := .tuple #[.agg #[.int .i64 0, .int .i64 0], .bool false]) (by simp [results, Try.results52, go_sem, *]) rfl ⟨rfl, (by repeat (first | exact Below.refl _ _ | assumption | refine Below.drew ?_ | refine below_drewN ?_ _ | refine Below.alloc ?_ (by first | omega | (simp; done) | (simp; omega)) _ | refine Below.setCell ?_ (by first | omega | (simp; done) | (simp; omega)) _ | refine Below.trans ?_ (Below.mono (by assumption) (by first | omega | (simp; done) | (simp; omega)))))⟩

set_option maxHeartbeats 1000000 in
theorem stParse_first (l : List UInt8) {p q : List UInt8} (hl : l.length ≤ 1048576) (h : splitL 44 l = [p, q]) (hlq : l = p ++ 44 :: q) (hn : readP p < 0) (w : World) :
    Calls Try.prog 52 #[.string (bs l)] w fun e w' => e = .returned (.tuple #[.agg #[.int .i64 0, .int .i64 0], .bool false]) ∧ Below w.heap.size w w' := by
  have HS := Lib.hid (l1Split_form l 44 44 rfl hl h rfl)
  simp only [List.length_cons, List.length_nil] at HS
  have hr0 := stRead_any p (by have := congrArg List.length hlq; simp at this; omega)
  have hr1 := stRead_any q (by have := congrArg List.length hlq; simp at this; omega)
  have HRp := Lib.hid hr0
  have HRq := Lib.hid hr1
  clear hr0 hr1 hlq

  obtain ⟨q1, q2, q3, q4, q5, q6, q7⟩ := nadd
  go_enter Try.func52, Try.ntmps52
  go_wp2_with (first | (go_at_call 51; (refine (HS.out _).mono ?_; rintro e w1 ⟨g, cap, rfl, hg, hgl, hcell, hb1⟩; have cl0 := hcell 0 (by simp); have cl1 := hcell 1 (by simp); clear hcell; simp only [List.getElem_cons_zero, List.getElem_cons_succ] at cl0 cl1; have hgn : ¬ g = w.heap.size := (by simp at hg; omega); have hs1 := hb1.size; (try simp at hs1); obtain ⟨hcn, hfn, hln⟩ := bcellN (w.heap.size + 1) hb1 (by first | omega | (simp; done) | (simp; omega)); have hz0 : w.heap.size < w1.heap.size := (by omega); (first | have hk4 := call_facts hl3 hb1 (by simp) | skip); (first | have hk3 := call_facts hl2 hb1 (by simp) | skip); (first | have hk2 := call_facts hl1 hb1 (by simp) | skip); have hk1 := call_facts (fun b h => h) hb1 (Nat.le_refl _); (first | have hl4 := hk4.1 | skip); (first | have hl3 := hk3.1 | skip); (first | have hl2 := hk2.1 | skip); have hl1 := hk1.1)) | (go_at_call 62; ((with_reducible refine (HRp.out _).mono ?_); rintro e w1 ⟨rfl, hb1⟩; have cl0 := (hb1.cell (p := ⟨g, 0, none⟩) hgl).trans cl0; have cl1 := (hb1.cell (p := ⟨g, 1, none⟩) hgl).trans cl1; have hgl := Nat.lt_of_lt_of_le hgl hb1.size; have hs1 := hb1.size; (try simp at hs1); obtain ⟨hcn, hfn, hln⟩ := bcellN (w.heap.size + 1) hb1 (by first | omega | (simp; done) | (simp; omega)); have hz0 : w.heap.size < w1.heap.size := (by omega); (first | have hk4 := call_facts hl3 hb1 (by simp) | skip); (first | have hk3 := call_facts hl2 hb1 (by simp) | skip); (first | have hk2 := call_facts hl1 hb1 (by simp) | skip); have hk1 := call_facts (fun b h => h) hb1 (Nat.le_refl _); (first | have hl4 := hk4.1 | skip); (first | have hl3 := hk3.1 | skip); (first | have hl2 := hk2.1 | skip); have hl1 := hk1.1)) | (go_at_call 62; ((with_reducible refine (HRq.out _).mono ?_); rintro e w1 ⟨rfl, hb1⟩; have cl0 := (hb1.cell (p := ⟨g, 0, none⟩) hgl).trans cl0; have cl1 := (hb1.cell (p := ⟨g, 1, none⟩) hgl).trans cl1; have hgl := Nat.lt_of_lt_of_le hgl hb1.size; have hs1 := hb1.size; (try simp at hs1); obtain ⟨hcn, hfn, hln⟩ := bcellN (w.heap.size + 1) hb1 (by first | omega | (simp; done) | (simp; omega)); have hz0 : w.heap.size < w1.heap.size := (by omega); (first | have hk4 := call_facts hl3 hb1 (by simp) | skip); (first | have hk3 := call_facts hl2 hb1 (by simp) | skip); (first | have hk2 := call_facts hl1 hb1 (by simp) | skip); have hk1 := call_facts (fun b h => h) hb1 (Nat.le_refl _); (first | have hl4 := hk4.1 | skip); (first | have hl3 := hk3.1 | skip); (first | have hl2 := hk2.1 | skip); have hl1 := hk1.1)))
  first | exact bodyPost_ret (v := .tuple #[.agg #[.int .i64 0, .int .i64 0], .bool false]) (by simp [results, Try.results52, go_sem, *]) rfl ⟨rfl, (by repeat (first | exact Below.refl _ _ | assumption | refine Below.drew ?_ | refine below_drewN ?_ _ | refine Below.alloc ?_ (by first | omega | (simp; done) | (simp; omega)) _ | refine Below.setCell ?_ (by first | omega | (simp; done) | (simp; omega)) _ | refine Below.trans ?_ (Below.mono (by assumption) (by first | omega | (simp; done) | (simp; omega)))))⟩

set_option maxHeartbeats 1000000 in
theorem stParse_second (l : List UInt8) {p q : List UInt8} (hl : l.length ≤ 1048576) (h : splitL 44 l = [p, q]) (hlq : l = p ++ 44 :: q) (hn : ¬ readP p < 0) (hn2 : readP q < 0) (w : World) :
    Calls Try.prog 52 #[.string (bs l)] w fun e w' => e = .returned (.tuple #[.agg #[.int .i64 0, .int .i64 0], .bool false]) ∧ Below w.heap.size w w' := by
  have HS := Lib.hid (l1Split_form l 44 44 rfl hl h rfl)
  simp only [List.length_cons, List.length_nil] at HS
  have hr0 := stRead_any p (by have := congrArg List.length hlq; simp at this; omega)
  have hr1 := stRead_any q (by have := congrArg List.length hlq; simp at this; omega)
  have HRp := Lib.hid hr0
  have HRq := Lib.hid hr1
  clear hr0 hr1 hlq

  obtain ⟨q1, q2, q3, q4, q5, q6, q7⟩ := nadd
  go_enter Try.func52, Try.ntmps52
  go_wp2_with (first | (go_at_call 51; (refine (HS.out _).mono ?_; rintro e w1 ⟨g, cap, rfl, hg, hgl, hcell, hb1⟩; have cl0 := hcell 0 (by simp); have cl1 := hcell 1 (by simp); clear hcell; simp only [List.getElem_cons_zero, List.getElem_cons_succ] at cl0 cl1; have hgn : ¬ g = w.heap.size := (by simp at hg; omega); have hs1 := hb1.size; (try simp at hs1); obtain ⟨hcn, hfn, hln⟩ := bcellN (w.heap.size + 1) hb1 (by first | omega | (simp; done) | (simp; omega)); have hz0 : w.heap.size < w1.heap.size := (by omega); (first | have hk4 := call_facts hl3 hb1 (by simp) | skip); (first | have hk3 := call_facts hl2 hb1 (by simp) | skip); (first | have hk2 := call_facts hl1 hb1 (by simp) | skip); have hk1 := call_facts (fun b h => h) hb1 (Nat.le_refl _); (first | have hl4 := hk4.1 | skip); (first | have hl3 := hk3.1 | skip); (first | have hl2 := hk2.1 | skip); have hl1 := hk1.1)) | (go_at_call 62; ((with_reducible refine (HRp.out _).mono ?_); rintro e w1 ⟨rfl, hb1⟩; have cl0 := (hb1.cell (p := ⟨g, 0, none⟩) hgl).trans cl0; have cl1 := (hb1.cell (p := ⟨g, 1, none⟩) hgl).trans cl1; have hgl := Nat.lt_of_lt_of_le hgl hb1.size; have hs1 := hb1.size; (try simp at hs1); obtain ⟨hcn, hfn, hln⟩ := bcellN (w.heap.size + 1) hb1 (by first | omega | (simp; done) | (simp; omega)); have hz0 : w.heap.size < w1.heap.size := (by omega); (first | have hk4 := call_facts hl3 hb1 (by simp) | skip); (first | have hk3 := call_facts hl2 hb1 (by simp) | skip); (first | have hk2 := call_facts hl1 hb1 (by simp) | skip); have hk1 := call_facts (fun b h => h) hb1 (Nat.le_refl _); (first | have hl4 := hk4.1 | skip); (first | have hl3 := hk3.1 | skip); (first | have hl2 := hk2.1 | skip); have hl1 := hk1.1)) | (go_at_call 62; ((with_reducible refine (HRq.out _).mono ?_); rintro e w1 ⟨rfl, hb1⟩; have cl0 := (hb1.cell (p := ⟨g, 0, none⟩) hgl).trans cl0; have cl1 := (hb1.cell (p := ⟨g, 1, none⟩) hgl).trans cl1; have hgl := Nat.lt_of_lt_of_le hgl hb1.size; have hs1 := hb1.size; (try simp at hs1); obtain ⟨hcn, hfn, hln⟩ := bcellN (w.heap.size + 1) hb1 (by first | omega | (simp; done) | (simp; omega)); have hz0 : w.heap.size < w1.heap.size := (by omega); (first | have hk4 := call_facts hl3 hb1 (by simp) | skip); (first | have hk3 := call_facts hl2 hb1 (by simp) | skip); (first | have hk2 := call_facts hl1 hb1 (by simp) | skip); have hk1 := call_facts (fun b h => h) hb1 (Nat.le_refl _); (first | have hl4 := hk4.1 | skip); (first | have hl3 := hk3.1 | skip); (first | have hl2 := hk2.1 | skip); have hl1 := hk1.1)))
  first | exact bodyPost_ret (v := .tuple #[.agg #[.int .i64 0, .int .i64 0], .bool false]) (by simp [results, Try.results52, go_sem, *]) rfl ⟨rfl, (by repeat (first | exact Below.refl _ _ | assumption | refine Below.drew ?_ | refine below_drewN ?_ _ | refine Below.alloc ?_ (by first | omega | (simp; done) | (simp; omega)) _ | refine Below.setCell ?_ (by first | omega | (simp; done) | (simp; omega)) _ | refine Below.trans ?_ (Below.mono (by assumption) (by first | omega | (simp; done) | (simp; omega)))))⟩

set_option maxHeartbeats 4000000 in
theorem stParse_off (l : List UInt8) {p q : List UInt8} (hl : l.length ≤ 1048576) (h : splitL 44 l = [p, q]) (hlq : l = p ++ 44 :: q) (hn : ¬ readP p < 0) (hn2 : ¬ readP q < 0) (h3 : onField (readP p) (readP q) = false) (w : World) :
    Calls Try.prog 52 #[.string (bs l)] w fun e w' => e = .returned (.tuple #[.agg #[.int .i64 0, .int .i64 0], .bool false]) ∧ Below w.heap.size w w' := by
  have HS := Lib.hid (l1Split_form l 44 44 rfl hl h rfl)
  simp only [List.length_cons, List.length_nil] at HS
  have hr0 := stRead_any p (by have := congrArg List.length hlq; simp at this; omega)
  have hr1 := stRead_any q (by have := congrArg List.length hlq; simp at this; omega)
  have HRp := Lib.hid hr0
  have HRq := Lib.hid hr1
  clear hr0 hr1 hlq
  have hi0 : ∀ W : World, Calls Try.prog 63 #[.int .i64 (readP p), .int .i64 (readP q)] W fun e w' => e = .returned (.tuple #[.agg #[.int .i64 0, .int .i64 0], .bool false]) ∧ Below W.heap.size W w' := by
    intro W
    have h := stIf_any (readP p) (readP q) W
    rw [h3] at h
    exact h
  have HI := Lib.hid hi0
  clear hi0

  obtain ⟨q1, q2, q3, q4, q5, q6, q7⟩ := nadd
  go_enter Try.func52, Try.ntmps52
  go_upto_region 4 with (first | (go_at_call 51; (refine (HS.out _).mono ?_; rintro e w1 ⟨g, cap, rfl, hg, hgl, hcell, hb1⟩; have cl0 := hcell 0 (by simp); have cl1 := hcell 1 (by simp); clear hcell; simp only [List.getElem_cons_zero, List.getElem_cons_succ] at cl0 cl1; have hgn : ¬ g = w.heap.size := (by simp at hg; omega); have hs1 := hb1.size; (try simp at hs1); obtain ⟨hcn, hfn, hln⟩ := bcellN (w.heap.size + 1) hb1 (by first | omega | (simp; done) | (simp; omega)); have hz0 : w.heap.size < w1.heap.size := (by omega); (first | have hk4 := call_facts hl3 hb1 (by simp) | skip); (first | have hk3 := call_facts hl2 hb1 (by simp) | skip); (first | have hk2 := call_facts hl1 hb1 (by simp) | skip); have hk1 := call_facts (fun b h => h) hb1 (Nat.le_refl _); (first | have hl4 := hk4.1 | skip); (first | have hl3 := hk3.1 | skip); (first | have hl2 := hk2.1 | skip); have hl1 := hk1.1)) | (go_at_call 62; ((with_reducible refine (HRp.out _).mono ?_); rintro e w1 ⟨rfl, hb1⟩; have cl0 := (hb1.cell (p := ⟨g, 0, none⟩) hgl).trans cl0; have cl1 := (hb1.cell (p := ⟨g, 1, none⟩) hgl).trans cl1; have hgl := Nat.lt_of_lt_of_le hgl hb1.size; have hs1 := hb1.size; (try simp at hs1); obtain ⟨hcn, hfn, hln⟩ := bcellN (w.heap.size + 1) hb1 (by first | omega | (simp; done) | (simp; omega)); have hz0 : w.heap.size < w1.heap.size := (by omega); (first | have hk4 := call_facts hl3 hb1 (by simp) | skip); (first | have hk3 := call_facts hl2 hb1 (by simp) | skip); (first | have hk2 := call_facts hl1 hb1 (by simp) | skip); have hk1 := call_facts (fun b h => h) hb1 (Nat.le_refl _); (first | have hl4 := hk4.1 | skip); (first | have hl3 := hk3.1 | skip); (first | have hl2 := hk2.1 | skip); have hl1 := hk1.1)) | (go_at_call 62; ((with_reducible refine (HRq.out _).mono ?_); rintro e w1 ⟨rfl, hb1⟩; have cl0 := (hb1.cell (p := ⟨g, 0, none⟩) hgl).trans cl0; have cl1 := (hb1.cell (p := ⟨g, 1, none⟩) hgl).trans cl1; have hgl := Nat.lt_of_lt_of_le hgl hb1.size; have hs1 := hb1.size; (try simp at hs1); obtain ⟨hcn, hfn, hln⟩ := bcellN (w.heap.size + 1) hb1 (by first | omega | (simp; done) | (simp; omega)); have hz0 : w.heap.size < w1.heap.size := (by omega); (first | have hk4 := call_facts hl3 hb1 (by simp) | skip); (first | have hk3 := call_facts hl2 hb1 (by simp) | skip); (first | have hk2 := call_facts hl1 hb1 (by simp) | skip); have hk1 := call_facts (fun b h => h) hb1 (Nat.le_refl _); (first | have hl4 := hk4.1 | skip); (first | have hl3 := hk3.1 | skip); (first | have hl2 := hk2.1 | skip); have hl1 := hk1.1)))
  have r0 : w1.cell? ⟨w.heap.size, 0, none⟩ = some (.int .i64 0) := by go_simp
  have r1 : w1.cell? ⟨w.heap.size, 1, none⟩ = some (.int .i64 0) := by go_simp
  have hW : Below w.heap.size w w1 := (by repeat (first | exact Below.refl _ _ | assumption | refine Below.drew ?_ | refine below_drewN ?_ _ | refine Below.alloc ?_ (by first | omega | (simp; done) | (simp; omega)) _ | refine Below.setCell ?_ (by first | omega | (simp; done) | (simp; omega)) _ | refine Below.trans ?_ (Below.mono (by assumption) (by first | omega | (simp; done) | (simp; omega)))))
  have hgw : w.heap.size < g := by simp at hg; omega
  have hw0 : w.heap.size < w1.heap.size := hz0
  have z0 : w1.frozen? ⟨w.heap.size, 0, none⟩ = false := by go_simp
  have z1 : w1.frozen? ⟨w.heap.size, 1, none⟩ = false := by go_simp
  (repeat clear hl1); (repeat clear hl2); (repeat clear hl3); (repeat clear hl4); (repeat clear hk1); (repeat clear hk2); (repeat clear hk3); (repeat clear hk4); (repeat clear hcn); (repeat clear hfn); (repeat clear hln); (repeat clear hz0); (repeat clear hz1); (repeat clear hz2); (repeat clear hs1); (repeat clear hb1)
  go_cut [5, 6] (fun s5 s6 wx => ∃ k, s5 = .pointer (some ⟨k, 0, none⟩) ∧ s6 = .bool false ∧ w.heap.size < k ∧ k < wx.heap.size ∧ wx.cell? ⟨k, 0, none⟩ = some (.int .i64 0) ∧ wx.cell? ⟨k, 1, none⟩ = some (.int .i64 0) ∧ wx.cell? ⟨w.heap.size, 0, none⟩ = some (.int .i64 0) ∧ wx.cell? ⟨w.heap.size, 1, none⟩ = some (.int .i64 0) ∧ wx.frozen? ⟨w.heap.size, 0, none⟩ = false ∧ wx.frozen? ⟨w.heap.size, 1, none⟩ = false ∧ Below w.heap.size w wx)
  case first =>
    go_region_held3 (fun w' => w'.cell? ⟨g, 0, none⟩ = some (.string (bs p)) ∧ w'.cell? ⟨g, 1, none⟩ = some (.string (bs q)) ∧ g < w'.heap.size ∧ w.heap.size < w'.heap.size) (refine ⟨?_, ?_, ?_, ?_⟩ <;> first | (go_keep; done) | (simp [*, World.cell?_alloc_past, World.cell?_setCell_far]; done) | (simp [*, World.cell?_alloc_past, World.cell?_alloc_at, World.cell?_setCell_far]; done) | (go_simp; done))
      (first | (go_at_call 62; ((with_reducible refine (HRp.out _).mono ?_); rintro e w1 ⟨rfl, hb1⟩; have hcg : ∀ o, w1.cell? ⟨g, o, none⟩ = _ := fun o => hb1.cell (p := ⟨g, o, none⟩) (by first | omega | (simp; done) | (simp; omega)); have hgz : g < w1.heap.size := (by have hq := hb1.size; (try simp at hq); omega); have hs1 := hb1.size; (try simp at hs1); obtain ⟨hcn, hfn, hln⟩ := bcellN (w.heap.size + 1) hb1 (by first | omega | (simp; done) | (simp; omega)); have hz0 : w.heap.size < w1.heap.size := (by omega); (first | have hk4 := call_facts hl3 hb1 (by simp) | skip); (first | have hk3 := call_facts hl2 hb1 (by simp) | skip); (first | have hk2 := call_facts hl1 hb1 (by simp) | skip); have hk1 := call_facts (fun b h => h) hb1 (Nat.le_refl _); (first | have hl4 := hk4.1 | skip); (first | have hl3 := hk3.1 | skip); (first | have hl2 := hk2.1 | skip); have hl1 := hk1.1)) | (go_at_call 62; ((with_reducible refine (HRq.out _).mono ?_); rintro e w1 ⟨rfl, hb1⟩; have hcg : ∀ o, w1.cell? ⟨g, o, none⟩ = _ := fun o => hb1.cell (p := ⟨g, o, none⟩) (by first | omega | (simp; done) | (simp; omega)); have hgz : g < w1.heap.size := (by have hq := hb1.size; (try simp at hq); omega); have hs1 := hb1.size; (try simp at hs1); obtain ⟨hcn, hfn, hln⟩ := bcellN (w.heap.size + 1) hb1 (by first | omega | (simp; done) | (simp; omega)); have hz0 : w.heap.size < w1.heap.size := (by omega); (first | have hk4 := call_facts hl3 hb1 (by simp) | skip); (first | have hk3 := call_facts hl2 hb1 (by simp) | skip); (first | have hk2 := call_facts hl1 hb1 (by simp) | skip); have hk1 := call_facts (fun b h => h) hb1 (Nat.le_refl _); (first | have hl4 := hk4.1 | skip); (first | have hl3 := hk3.1 | skip); (first | have hl2 := hk2.1 | skip); have hl1 := hk1.1)) | (go_at_call 63; (refine (HI.out _).mono ?_; rintro e w1 ⟨rfl, hb1⟩; have hcg : ∀ o, w1.cell? ⟨g, o, none⟩ = _ := fun o => hb1.cell (p := ⟨g, o, none⟩) (by first | omega | (simp; done) | (simp; omega)); have hgz : g < w1.heap.size := (by have hq := hb1.size; (try simp at hq); omega); have hs1 := hb1.size; (try simp at hs1); obtain ⟨hcn, hfn, hln⟩ := bcellN (w.heap.size + 1) hb1 (by first | omega | (simp; done) | (simp; omega)); have hz0 : w.heap.size < w1.heap.size := (by omega); (first | have hk4 := call_facts hl3 hb1 (by simp) | skip); (first | have hk3 := call_facts hl2 hb1 (by simp) | skip); (first | have hk2 := call_facts hl1 hb1 (by simp) | skip); have hk1 := call_facts (fun b h => h) hb1 (Nat.le_refl _); (first | have hl4 := hk4.1 | skip); (first | have hl3 := hk3.1 | skip); (first | have hl2 := hk2.1 | skip); have hl1 := hk1.1)))
    all_goals
      go_wp2_with fail
      go_meet
      refine ⟨_, rfl, rfl, ?_, ?_, ?_, ?_, ?_, ?_, ?_, ?_, (by repeat (first | exact Below.refl _ _ | assumption | refine Below.drew ?_ | refine below_drewN ?_ _ | refine Below.alloc ?_ (by first | omega | (simp; done) | (simp; omega)) _ | refine Below.setCell ?_ (by first | omega | (simp; done) | (simp; omega)) _ | refine Below.trans ?_ (Below.mono (by assumption) (by first | omega | (simp; done) | (simp; omega)))))⟩ <;> first | omega | (simp; done) | (simp; omega) | (go_simp; done) | (simp [*, World.cell?_alloc_past, World.cell?_alloc_at, World.cell?_setCell_far]; done)
  case rest =>
    obtain ⟨k, rfl, rfl, hk, hkl, k0, k1, d0, d1, y0, y1, hbw⟩ := hcut
    have hkn : ¬ k = w.heap.size := by omega
    have hkn2 : ¬ w.heap.size = k := by omega
    have hwl : w.heap.size < wc.heap.size := by omega
    go_wp2_with fail
    first | exact bodyPost_ret (v := .tuple #[.agg #[.int .i64 0, .int .i64 0], .bool false]) (by simp [results, Try.results52, go_sem, *]) rfl ⟨rfl, (by repeat (first | exact Below.refl _ _ | assumption | refine Below.drew ?_ | refine below_drewN ?_ _ | refine Below.alloc ?_ (by first | omega | (simp; done) | (simp; omega)) _ | refine Below.setCell ?_ (by first | omega | (simp; done) | (simp; omega)) _ | refine Below.trans ?_ (Below.mono (by assumption) (by first | omega | (simp; done) | (simp; omega)))))⟩

set_option maxHeartbeats 4000000 in
theorem stParse_on (l : List UInt8) {p q : List UInt8} (hl : l.length ≤ 1048576) (h : splitL 44 l = [p, q]) (hlq : l = p ++ 44 :: q) (hn : ¬ readP p < 0) (hn2 : ¬ readP q < 0) (h3 : onField (readP p) (readP q) = true) (w : World) :
    Calls Try.prog 52 #[.string (bs l)] w fun e w' => e = .returned (.tuple #[.agg #[.int .i64 (readP p), .int .i64 (readP q)], .bool true]) ∧ Below w.heap.size w w' := by
  have HS := Lib.hid (l1Split_form l 44 44 rfl hl h rfl)
  simp only [List.length_cons, List.length_nil] at HS
  have ht0 : ∀ W : World, Calls Try.prog 64 #[.agg #[.int .i64 (readP p), .int .i64 (readP q)]] W fun e w' => e = .returned (.string (bs l)) ∧ Below W.heap.size W w' := by
    intro W
    have h := stText_any (readP p) (readP q) h3 W
    rw [spot_read (by omega) (by omega), ← hlq] at h
    exact h
  have HT := Lib.hid ht0
  clear ht0
  have hr0 := stRead_any p (by have := congrArg List.length hlq; simp at this; omega)
  have hr1 := stRead_any q (by have := congrArg List.length hlq; simp at this; omega)
  have HRp := Lib.hid hr0
  have HRq := Lib.hid hr1
  clear hr0 hr1 hlq
  have hi0 : ∀ W : World, Calls Try.prog 63 #[.int .i64 (readP p), .int .i64 (readP q)] W fun e w' => e = .returned (.tuple #[.agg #[.int .i64 (readP p), .int .i64 (readP q)], .bool true]) ∧ Below W.heap.size W w' := by
    intro W
    have h := stIf_any (readP p) (readP q) W
    rw [h3] at h
    exact h
  have HI := Lib.hid hi0
  clear hi0

  obtain ⟨q1, q2, q3, q4, q5, q6, q7⟩ := nadd
  go_enter Try.func52, Try.ntmps52
  go_upto_region 4 with (first | (go_at_call 51; (refine (HS.out _).mono ?_; rintro e w1 ⟨g, cap, rfl, hg, hgl, hcell, hb1⟩; have cl0 := hcell 0 (by simp); have cl1 := hcell 1 (by simp); clear hcell; simp only [List.getElem_cons_zero, List.getElem_cons_succ] at cl0 cl1; have hgn : ¬ g = w.heap.size := (by simp at hg; omega); have hs1 := hb1.size; (try simp at hs1); obtain ⟨hcn, hfn, hln⟩ := bcellN (w.heap.size + 1) hb1 (by first | omega | (simp; done) | (simp; omega)); have hz0 : w.heap.size < w1.heap.size := (by omega); (first | have hk4 := call_facts hl3 hb1 (by simp) | skip); (first | have hk3 := call_facts hl2 hb1 (by simp) | skip); (first | have hk2 := call_facts hl1 hb1 (by simp) | skip); have hk1 := call_facts (fun b h => h) hb1 (Nat.le_refl _); (first | have hl4 := hk4.1 | skip); (first | have hl3 := hk3.1 | skip); (first | have hl2 := hk2.1 | skip); have hl1 := hk1.1)) | (go_at_call 62; ((with_reducible refine (HRp.out _).mono ?_); rintro e w1 ⟨rfl, hb1⟩; have cl0 := (hb1.cell (p := ⟨g, 0, none⟩) hgl).trans cl0; have cl1 := (hb1.cell (p := ⟨g, 1, none⟩) hgl).trans cl1; have hgl := Nat.lt_of_lt_of_le hgl hb1.size; have hs1 := hb1.size; (try simp at hs1); obtain ⟨hcn, hfn, hln⟩ := bcellN (w.heap.size + 1) hb1 (by first | omega | (simp; done) | (simp; omega)); have hz0 : w.heap.size < w1.heap.size := (by omega); (first | have hk4 := call_facts hl3 hb1 (by simp) | skip); (first | have hk3 := call_facts hl2 hb1 (by simp) | skip); (first | have hk2 := call_facts hl1 hb1 (by simp) | skip); have hk1 := call_facts (fun b h => h) hb1 (Nat.le_refl _); (first | have hl4 := hk4.1 | skip); (first | have hl3 := hk3.1 | skip); (first | have hl2 := hk2.1 | skip); have hl1 := hk1.1)) | (go_at_call 62; ((with_reducible refine (HRq.out _).mono ?_); rintro e w1 ⟨rfl, hb1⟩; have cl0 := (hb1.cell (p := ⟨g, 0, none⟩) hgl).trans cl0; have cl1 := (hb1.cell (p := ⟨g, 1, none⟩) hgl).trans cl1; have hgl := Nat.lt_of_lt_of_le hgl hb1.size; have hs1 := hb1.size; (try simp at hs1); obtain ⟨hcn, hfn, hln⟩ := bcellN (w.heap.size + 1) hb1 (by first | omega | (simp; done) | (simp; omega)); have hz0 : w.heap.size < w1.heap.size := (by omega); (first | have hk4 := call_facts hl3 hb1 (by simp) | skip); (first | have hk3 := call_facts hl2 hb1 (by simp) | skip); (first | have hk2 := call_facts hl1 hb1 (by simp) | skip); have hk1 := call_facts (fun b h => h) hb1 (Nat.le_refl _); (first | have hl4 := hk4.1 | skip); (first | have hl3 := hk3.1 | skip); (first | have hl2 := hk2.1 | skip); have hl1 := hk1.1)))
  have r0 : w1.cell? ⟨w.heap.size, 0, none⟩ = some (.int .i64 0) := by go_simp
  have r1 : w1.cell? ⟨w.heap.size, 1, none⟩ = some (.int .i64 0) := by go_simp
  have hW : Below w.heap.size w w1 := (by repeat (first | exact Below.refl _ _ | assumption | refine Below.drew ?_ | refine below_drewN ?_ _ | refine Below.alloc ?_ (by first | omega | (simp; done) | (simp; omega)) _ | refine Below.setCell ?_ (by first | omega | (simp; done) | (simp; omega)) _ | refine Below.trans ?_ (Below.mono (by assumption) (by first | omega | (simp; done) | (simp; omega)))))
  have hgw : w.heap.size < g := by simp at hg; omega
  have hw0 : w.heap.size < w1.heap.size := hz0
  have z0 : w1.frozen? ⟨w.heap.size, 0, none⟩ = false := by go_simp
  have z1 : w1.frozen? ⟨w.heap.size, 1, none⟩ = false := by go_simp
  (repeat clear hl1); (repeat clear hl2); (repeat clear hl3); (repeat clear hl4); (repeat clear hk1); (repeat clear hk2); (repeat clear hk3); (repeat clear hk4); (repeat clear hcn); (repeat clear hfn); (repeat clear hln); (repeat clear hz0); (repeat clear hz1); (repeat clear hz2); (repeat clear hs1); (repeat clear hb1)
  go_cut [5, 6] (fun s5 s6 wx => ∃ k, s5 = .pointer (some ⟨k, 0, none⟩) ∧ s6 = .bool true ∧ w.heap.size < k ∧ k < wx.heap.size ∧ wx.cell? ⟨k, 0, none⟩ = some (.int .i64 (readP p)) ∧ wx.cell? ⟨k, 1, none⟩ = some (.int .i64 (readP q)) ∧ wx.cell? ⟨w.heap.size, 0, none⟩ = some (.int .i64 0) ∧ wx.cell? ⟨w.heap.size, 1, none⟩ = some (.int .i64 0) ∧ wx.frozen? ⟨w.heap.size, 0, none⟩ = false ∧ wx.frozen? ⟨w.heap.size, 1, none⟩ = false ∧ Below w.heap.size w wx)
  case first =>
    go_region_held3 (fun w' => w'.cell? ⟨g, 0, none⟩ = some (.string (bs p)) ∧ w'.cell? ⟨g, 1, none⟩ = some (.string (bs q)) ∧ g < w'.heap.size ∧ w.heap.size < w'.heap.size) (refine ⟨?_, ?_, ?_, ?_⟩ <;> first | (go_keep; done) | (simp [*, World.cell?_alloc_past, World.cell?_setCell_far]; done) | (simp [*, World.cell?_alloc_past, World.cell?_alloc_at, World.cell?_setCell_far]; done) | (go_simp; done))
      (first | (go_at_call 62; ((with_reducible refine (HRp.out _).mono ?_); rintro e w1 ⟨rfl, hb1⟩; have hcg : ∀ o, w1.cell? ⟨g, o, none⟩ = _ := fun o => hb1.cell (p := ⟨g, o, none⟩) (by first | omega | (simp; done) | (simp; omega)); have hgz : g < w1.heap.size := (by have hq := hb1.size; (try simp at hq); omega); have hs1 := hb1.size; (try simp at hs1); obtain ⟨hcn, hfn, hln⟩ := bcellN (w.heap.size + 1) hb1 (by first | omega | (simp; done) | (simp; omega)); have hz0 : w.heap.size < w1.heap.size := (by omega); (first | have hk4 := call_facts hl3 hb1 (by simp) | skip); (first | have hk3 := call_facts hl2 hb1 (by simp) | skip); (first | have hk2 := call_facts hl1 hb1 (by simp) | skip); have hk1 := call_facts (fun b h => h) hb1 (Nat.le_refl _); (first | have hl4 := hk4.1 | skip); (first | have hl3 := hk3.1 | skip); (first | have hl2 := hk2.1 | skip); have hl1 := hk1.1)) | (go_at_call 62; ((with_reducible refine (HRq.out _).mono ?_); rintro e w1 ⟨rfl, hb1⟩; have hcg : ∀ o, w1.cell? ⟨g, o, none⟩ = _ := fun o => hb1.cell (p := ⟨g, o, none⟩) (by first | omega | (simp; done) | (simp; omega)); have hgz : g < w1.heap.size := (by have hq := hb1.size; (try simp at hq); omega); have hs1 := hb1.size; (try simp at hs1); obtain ⟨hcn, hfn, hln⟩ := bcellN (w.heap.size + 1) hb1 (by first | omega | (simp; done) | (simp; omega)); have hz0 : w.heap.size < w1.heap.size := (by omega); (first | have hk4 := call_facts hl3 hb1 (by simp) | skip); (first | have hk3 := call_facts hl2 hb1 (by simp) | skip); (first | have hk2 := call_facts hl1 hb1 (by simp) | skip); have hk1 := call_facts (fun b h => h) hb1 (Nat.le_refl _); (first | have hl4 := hk4.1 | skip); (first | have hl3 := hk3.1 | skip); (first | have hl2 := hk2.1 | skip); have hl1 := hk1.1)) | (go_at_call 63; (refine (HI.out _).mono ?_; rintro e w1 ⟨rfl, hb1⟩; have hcg : ∀ o, w1.cell? ⟨g, o, none⟩ = _ := fun o => hb1.cell (p := ⟨g, o, none⟩) (by first | omega | (simp; done) | (simp; omega)); have hgz : g < w1.heap.size := (by have hq := hb1.size; (try simp at hq); omega); have hs1 := hb1.size; (try simp at hs1); obtain ⟨hcn, hfn, hln⟩ := bcellN (w.heap.size + 1) hb1 (by first | omega | (simp; done) | (simp; omega)); have hz0 : w.heap.size < w1.heap.size := (by omega); (first | have hk4 := call_facts hl3 hb1 (by simp) | skip); (first | have hk3 := call_facts hl2 hb1 (by simp) | skip); (first | have hk2 := call_facts hl1 hb1 (by simp) | skip); have hk1 := call_facts (fun b h => h) hb1 (Nat.le_refl _); (first | have hl4 := hk4.1 | skip); (first | have hl3 := hk3.1 | skip); (first | have hl2 := hk2.1 | skip); have hl1 := hk1.1)))
    all_goals
      go_wp2_with fail
      go_meet
      refine ⟨_, rfl, rfl, ?_, ?_, ?_, ?_, ?_, ?_, ?_, ?_, (by repeat (first | exact Below.refl _ _ | assumption | refine Below.drew ?_ | refine below_drewN ?_ _ | refine Below.alloc ?_ (by first | omega | (simp; done) | (simp; omega)) _ | refine Below.setCell ?_ (by first | omega | (simp; done) | (simp; omega)) _ | refine Below.trans ?_ (Below.mono (by assumption) (by first | omega | (simp; done) | (simp; omega)))))⟩ <;> first | omega | (simp; done) | (simp; omega) | (go_simp; done) | (simp [*, World.cell?_alloc_past, World.cell?_alloc_at, World.cell?_setCell_far]; done)
  case rest =>
    obtain ⟨k, rfl, rfl, hk, hkl, k0, k1, d0, d1, y0, y1, hbw⟩ := hcut
    have hkn : ¬ k = w.heap.size := by omega
    have hkn2 : ¬ w.heap.size = k := by omega
    have hwl : w.heap.size < wc.heap.size := by omega
    go_wp2_with (go_at_call 64; (refine (HT.out _).mono ?_; rintro e w1 ⟨rfl, hb1⟩; have hs1 := hb1.size; have m0 := (hb1.cell (p := ⟨k, 0, none⟩) hkl).trans k0; have m1 := (hb1.cell (p := ⟨k, 1, none⟩) hkl).trans k1; have m2 := (hb1.cell (p := ⟨w.heap.size, 0, none⟩) hwl).trans d0; have m3 := (hb1.cell (p := ⟨w.heap.size, 1, none⟩) hwl).trans d1; have m4 := (hb1.frozen (p := ⟨w.heap.size, 0, none⟩) hwl).trans y0; have m5 := (hb1.frozen (p := ⟨w.heap.size, 1, none⟩) hwl).trans y1; have m6 : w.heap.size < w1.heap.size := Nat.lt_of_lt_of_le hwl hs1; have m7 : k < w1.heap.size := Nat.lt_of_lt_of_le hkl hs1))
    first | exact bodyPost_ret (v := .tuple #[.agg #[.int .i64 (readP p), .int .i64 (readP q)], .bool true]) (by simp [results, Try.results52, go_sem, *]) rfl ⟨rfl, (by repeat (first | exact Below.refl _ _ | assumption | refine Below.drew ?_ | refine below_drewN ?_ _ | refine Below.alloc ?_ (by first | omega | (simp; done) | (simp; omega)) _ | refine Below.setCell ?_ (by first | omega | (simp; done) | (simp; omega)) _ | refine Below.trans ?_ (Below.mono (by assumption) (by first | omega | (simp; done) | (simp; omega)))))⟩

/-- The other side's reading, of every text. -/
theorem stParse_any (l : List UInt8) (hl : l.length ≤ 1048576) (w : World) :
    Calls Try.prog 52 #[.string (bs l)] w fun e w' => e = .returned (ansS l) ∧ Below w.heap.size w w' := by
  match hL : splitL 44 l with
  | [] =>
    have := (splitL_length 44 l).1
    rw [hL] at this
    simp at this
  | [p] =>
    rw [ans_no (okS_none (split_one hL))]
    exact stParse_one l hl hL w
  | [p, q] =>
    obtain ⟨m, hlm, hp, hm⟩ := split_cons hL
    have hmq := split_one_eq hm
    subst hmq
    by_cases hn : readP p < 0
    · rw [ans_no (okS_no p m hlm hp (Or.inl hn))]
      exact stParse_first l hl hL hlm hn w
    · by_cases hn2 : readP m < 0
      · rw [ans_no (okS_no p m hlm hp (Or.inr (Or.inl hn2)))]
        exact stParse_second l hl hL hlm hn hn2 w
      · cases h3 : onField (readP p) (readP m)
        · rw [ans_no (okS_no p m hlm hp (Or.inr (Or.inr h3)))]
          exact stParse_off l hl hL hlm hn hn2 h3 w
        · have hy := okS_yes p m hlm hp h3
          have hc := stParse_on l hl hL hlm hn hn2 h3 w
          rw [hlm] at hy hc ⊢
          rw [ans_yes hp hy]
          exact hc
  | p :: q :: r :: t =>
    obtain ⟨m, hlm, hp, hm⟩ := split_cons hL
    have h44 : (44 : UInt8) ∈ m := by
      by_cases e : (44 : UInt8) ∈ m
      · exact e
      · rw [splitL_none e] at hm
        simp at hm
    have hneg : readP m < 0 := by
      by_cases e : 0 ≤ readP m
      · exact absurd h44 (readP_not e (by decide) (by decide))
      · omega
    rw [ans_no (okS_no p m hlm hp (Or.inr (Or.inl hneg)))]
    exact stParse_more l hl hL w

end Go.Proofs.Ytagfleajkalgiaa
