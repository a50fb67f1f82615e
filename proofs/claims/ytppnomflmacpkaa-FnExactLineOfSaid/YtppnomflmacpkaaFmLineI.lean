/- Lines, the program's side. No conditions but those written in each theorem. -/
import Derived.Test.YtppnomflmacpkaaFmWayI
import Derived.Deep.RegionHeld3
import Derived.Deep.DrawnRows
import Derived.IntWalk
import Derived.Laws.AppendOwn
import Derived.Deep.AppendLies
namespace Go.Proofs.Ytppnomflmacpkaa
open Go.RowKit


attribute [local go_sem ↓] Go.wp_at_zero Go.wp_at_succ

theorem two_at (w : World) (x1 y1 x2 y2 : Int) : PairsAt (w.alloc (.cells #[.int .i64 x1, .int .i64 y1, .int .i64 x2, .int .i64 y2] 24)) (some ⟨w.heap.size, 0, none⟩) [(x1, y1), (x2, y2)] := by
  intro i hi
  refine ⟨_, _, rfl, ?_, ?_⟩
  all_goals
    match i, hi with
    | 0, _ => rw [World.cell?_alloc_at _ _ _ _ rfl]; rfl
    | 1, _ => rw [World.cell?_alloc_at _ _ _ _ rfl]; rfl
theorem two_ok (x1 y1 x2 y2 : Int) : okList [(x1, y1), (x2, y2)] = (onField x1 y1 && onField x2 y2) := by simp [okList, allOn, allP]
theorem two_on (x1 y1 x2 y2 : Int) : allOn [(x1, y1), (x2, y2)] = (onField x1 y1 && onField x2 y2) := by simp [allOn, allP]

set_option maxHeartbeats 1000000 in
theorem line_no (x1 y1 x2 y2 n : Int) (hk : lineOk x1 y1 x2 y2 n = false) (w : World) :
    Calls Try.prog 17 #[.agg #[.int .i64 x1, .int .i64 y1], .agg #[.int .i64 x2, .int .i64 y2], .int .i64 n] w fun e w' => e = .returned (.tuple #[.slice none 0 0, .bool false]) ∧ Below w.heap.size w w' := by
  have HS := Lib.hid (fun (W : World) (ha : PairsAt W (some ⟨w.heap.size + 1 + 1, 0, none⟩) [(x1, y1), (x2, y2)]) => show Calls Try.prog 45 #[.slice (some ⟨w.heap.size + 1 + 1, 0, none⟩) 2 2] W fun e w' => e = .returned (.bool (onField x1 y1 && onField x2 y2)) ∧ Below W.heap.size W w' from by rw [← two_ok]; exact areSpots_any (some ⟨w.heap.size + 1 + 1, 0, none⟩) 2 [(x1, y1), (x2, y2)] (by simp) ha)
  have hpa : PairsAt (((w.alloc (.cells #[.int .i64 x1, .int .i64 y1] 24)).alloc (.cells #[.int .i64 x2, .int .i64 y2] 24)).alloc (.cells #[.int .i64 x1, .int .i64 y1, .int .i64 x2, .int .i64 y2] 24)) (some ⟨w.heap.size + 1 + 1, 0, none⟩) [(x1, y1), (x2, y2)] := by have h := two_at ((w.alloc (.cells #[.int .i64 x1, .int .i64 y1] 24)).alloc (.cells #[.int .i64 x2, .int .i64 y2] 24)) x1 y1 x2 y2; simpa using h
  have HPA := Lib.hid hpa
  clear hpa
  unfold lineOk at hk
  cases h1 : (onField x1 y1 && onField x2 y2) <;> cases h2 : inB 1 n 12
  all_goals first | (exfalso; rw [h1, h2] at hk; cases hk; done) | clear hk
  all_goals
    have H1 := Lib.hid h1
    have H2 := Lib.hid h2
    clear h1 h2
    go_enter Try.func17, Try.ntmps17
    go_wp2_with (first | (go_at_call 45; (refine (HS.out _ HPA.out).mono ?_; rw [H1.out]; rintro e w1 ⟨rfl, hb1⟩; have hs1 := hb1.size; (try simp at hs1))) | (go_at_call 46; (refine (isPerformers_any _ _).mono ?_; rw [H2.out]; rintro e w' ⟨rfl, rfl⟩)))
    go_ret2
    exact ⟨rfl, (by repeat (first | exact Below.refl _ _ | assumption | refine Below.drew ?_ | refine below_drewN ?_ _ | refine Below.alloc ?_ (by first | omega | (simp; done) | (simp; omega)) _ | refine Below.setCell ?_ (by first | omega | (simp; done) | (simp; omega)) _ | refine Below.trans ?_ (Below.mono (by assumption) (by first | omega | (simp; done) | (simp; omega)))))⟩

set_option maxHeartbeats 2000000 in
theorem line_yes (x1 y1 x2 y2 : Int) (N : Nat) (h1 : onField x1 y1 = true) (h2 : onField x2 y2 = true) (n1 : 1 ≤ N) (n2 : N ≤ 12) (w : World) :
    Calls Try.prog 17 #[.agg #[.int .i64 x1, .int .i64 y1], .agg #[.int .i64 x2, .int .i64 y2], .int .i64 N] w fun e w' => ∃ v, e = .returned (.tuple #[v, .bool (chOk (wayTo [(x1, y1), (x2, y2)] N N))]) ∧ OwnPairs 24 w' w.heap.size v (chIf (wayTo [(x1, y1), (x2, y2)] N N)) ∧ Below w.heap.size w w' := by
  have HS := Lib.hid (fun (W : World) (ha : PairsAt W (some ⟨w.heap.size + 1 + 1, 0, none⟩) [(x1, y1), (x2, y2)]) => show Calls Try.prog 45 #[.slice (some ⟨w.heap.size + 1 + 1, 0, none⟩) 2 2] W fun e w' => e = .returned (.bool (onField x1 y1 && onField x2 y2)) ∧ Below W.heap.size W w' from by rw [← two_ok]; exact areSpots_any (some ⟨w.heap.size + 1 + 1, 0, none⟩) 2 [(x1, y1), (x2, y2)] (by simp) ha)
  have hpa : PairsAt (((w.alloc (.cells #[.int .i64 x1, .int .i64 y1] 24)).alloc (.cells #[.int .i64 x2, .int .i64 y2] 24)).alloc (.cells #[.int .i64 x1, .int .i64 y1, .int .i64 x2, .int .i64 y2] 24)) (some ⟨w.heap.size + 1 + 1, 0, none⟩) [(x1, y1), (x2, y2)] := by have h := two_at ((w.alloc (.cells #[.int .i64 x1, .int .i64 y1] 24)).alloc (.cells #[.int .i64 x2, .int .i64 y2] 24)) x1 y1 x2 y2; simpa using h
  have HPA := Lib.hid hpa
  clear hpa
  have htwo : (onField x1 y1 && onField x2 y2) = true := by rw [h1, h2]; rfl
  have hin : inB 1 (N : Int) 12 = true := inB_iff.2 ⟨by omega, by omega⟩
  have H1 := Lib.hid htwo
  have H2 := Lib.hid hin
  have HW := Lib.hid (fun (W : World) (ha : PairsAt W (some ⟨w.heap.size + 1 + 1, 0, none⟩) [(x1, y1), (x2, y2)]) => show Calls Try.prog 48 #[.slice (some ⟨w.heap.size + 1 + 1, 0, none⟩) 2 2, .int .i64 N] W fun e w' => ∃ v, e = .returned v ∧ OwnPairs 24 w' W.heap.size v (wayTo [(x1, y1), (x2, y2)] N N) ∧ Below W.heap.size W w' from spotsAlong_any (some ⟨w.heap.size + 1 + 1, 0, none⟩) 2 [(x1, y1), (x2, y2)] (by rw [two_on]; exact htwo) (by simp) (by simp) N n1 n2 ha)
  have hl12 : (wayTo [(x1, y1), (x2, y2)] N N).length ≤ 1048576 := by rw [wayTo_length]; omega
  have HC := Lib.hid (fun W b v ho => formOf (w := W) (base := b) (v := v) hl12 ho)
  obtain ⟨X, hX⟩ : ∃ X, X = wayTo [(x1, y1), (x2, y2)] N N := ⟨_, rfl⟩
  rw [← hX] at HC HW ⊢
  clear h1 h2 htwo hin hl12 hX
  go_enter Try.func17, Try.ntmps17
  go_wp2_with (first | (go_at_call 45; (refine (HS.out _ HPA.out).mono ?_; rw [H1.out]; rintro e w1 ⟨rfl, hb1⟩; have hs1 := hb1.size; (try simp at hs1))) | (go_at_call 46; (refine (isPerformers_any _ _).mono ?_; rw [H2.out]; rintro e w' ⟨rfl, rfl⟩)) | (go_at_call 48; (refine (HW.out _ (HPA.out.below hb1)).mono ?_; rintro e w2 ⟨v2, rfl, ho2, hb2⟩; have HO2 := Lib.hid ho2; clear ho2; have hs2 := hb2.size)) | (go_at_call 47; (refine (HC.out _ _ _ HO2.out).mono ?_; rintro e w4 ⟨v4, rfl, ho4, hb4⟩; have hs4 := hb4.size)))
  go_ret2
  exact ⟨_, rfl, own_mono ho4 (by omega), (by repeat (first | exact Below.refl _ _ | assumption | refine Below.drew ?_ | refine below_drewN ?_ _ | refine Below.alloc ?_ (by first | omega | (simp; done) | (simp; omega)) _ | refine Below.setCell ?_ (by first | omega | (simp; done) | (simp; omega)) _ | refine Below.trans ?_ (Below.mono (by assumption) (by first | omega | (simp; done) | (simp; omega)))))⟩
theorem line_any (x1 y1 x2 y2 n : Int) (w : World) :
    Calls Try.prog 17 #[.agg #[.int .i64 x1, .int .i64 y1], .agg #[.int .i64 x2, .int .i64 y2], .int .i64 n] w fun e w' => ∃ v, e = .returned (.tuple #[v, .bool (lineOk x1 y1 x2 y2 n && chOk (lineL x1 y1 x2 y2 n))]) ∧ OwnPairs 24 w' w.heap.size v (chIf (lineL x1 y1 x2 y2 n)) ∧ Below w.heap.size w w' := by
  cases hk : lineOk x1 y1 x2 y2 n
  · have e : lineL x1 y1 x2 y2 n = [] := by unfold lineL; rw [hk]; rfl
    rw [e, chIf_no (show chOk [] = false from rfl)]
    exact (line_no x1 y1 x2 y2 n hk w).mono fun e w' ⟨he, hb⟩ => ⟨_, he, own_nil _ _ _, hb⟩
  · have e : lineL x1 y1 x2 y2 n = wayTo [(x1, y1), (x2, y2)] n.toNat n.toNat := by unfold lineL; rw [if_pos hk]
    rw [e]
    unfold lineOk at hk
    rw [Bool.and_eq_true, Bool.and_eq_true, inB_iff] at hk
    obtain ⟨⟨o1, o2⟩, n0, n1⟩ := hk
    have h := line_yes x1 y1 x2 y2 n.toNat o1 o2 (by omega) (by omega) w
    rw [Int.toNat_of_nonneg (by omega)] at h
    exact h

end Go.Proofs.Ytppnomflmacpkaa
