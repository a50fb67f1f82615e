/- The other side's reading of eighths. No conditions but those written in each theorem. -/
import Derived.Test.YtagfleajkalgiaaL1Split
import Derived.Test.YtagfleajkalgiaaL1Read
import Derived.Test.YtagfleajkalgiaaStNum
import Derived.Deep.RegionHeld3
import Derived.Deep.DrawnRows
import Derived.IntWalk
namespace Go.Proofs.Ytagfleajkalgiaa
open Go.RowKit


attribute [local go_sem ↓] Go.wp_at_zero Go.wp_at_succ
theorem readP_1 {l p : List UInt8} (h : splitL 43 l = [p]) : readP l = if readL p < 0 then -1 else 8 * readL p := by unfold readP; rw [h]
theorem readP_2 {l p q : List UInt8} (h : splitL 43 l = [p, q]) : readP l = if readL p < 0 then -1 else if 1 ≤ readL q ∧ readL q ≤ 7 then 8 * readL p + readL q else -1 := by unfold readP; rw [h]
theorem readP_3 {l p q r : List UInt8} {t : List (List UInt8)} (h : splitL 43 l = p :: q :: r :: t) : readP l = -1 := by unfold readP; rw [h]

set_option maxHeartbeats 1000000 in
theorem stRead_one_no (l : List UInt8) {p : List UInt8} (hl : l.length ≤ 1048576) (h : splitL 43 l = [p]) (hn : readL p < 0) (w : World) :
    Calls Try.prog 62 #[.string (bs l)] w fun e w' => e = .returned (.int .i64 (readP l)) ∧ Below w.heap.size w w' := by
  have HS := Lib.hid (l1Split_form l 43 43 rfl hl h rfl)
  simp only [List.length_cons, List.length_nil] at HS
  have hr := readP_1 h
  rw [if_pos hn] at hr
  have HR := Lib.hid hr
  clear hr h
  go_enter Try.func62, Try.ntmps62
  go_wp2_with (first | (go_at_call 51; ((refine (HS.out _).mono ?_); rintro e w1 ⟨g, cap, rfl, hg, hgl, hcell, hb1⟩; have hs1 := hb1.size; have cl0 := hcell 0 (by simp); clear hcell; simp only [List.getElem_cons_zero, List.getElem_cons_succ] at cl0)) | (go_at_call 53; ((with_reducible refine (l1Read_any p _).mono ?_); rintro e w2 ⟨rfl, hb2⟩; have hs2 := hb2.size; )) | (go_at_call 48; (refine (l1In_any _ _ _ _).mono ?_; rintro e w' ⟨rfl, rfl⟩)))
  go_ret
  exact ⟨by rw [HR.out]; rfl, (by repeat (first | exact Below.refl _ _ | assumption | refine Below.drew ?_ | refine below_drewN ?_ _ | refine Below.alloc ?_ (by first | omega | (simp; done) | (simp; omega)) _ | refine Below.setCell ?_ (by first | omega | (simp; done) | (simp; omega)) _ | refine Below.trans ?_ (Below.mono (by assumption) (by first | omega | (simp; done) | (simp; omega)))))⟩

set_option maxHeartbeats 1000000 in
theorem stRead_one_yes (l : List UInt8) {p : List UInt8} (hl : l.length ≤ 1048576) (h : splitL 43 l = [p]) (hn : ¬ readL p < 0) (w : World) :
    Calls Try.prog 62 #[.string (bs l)] w fun e w' => e = .returned (.int .i64 (readP l)) ∧ Below w.heap.size w w' := by
  have HS := Lib.hid (l1Split_form l 43 43 rfl hl h rfl)
  simp only [List.length_cons, List.length_nil] at HS
  have h1 := readL_lt p
  have hr := readP_1 h
  rw [if_neg hn] at hr
  have v1 : IntKind.i64.wrap (8 * readL p) = 8 * readL p := IntWalk.i64_in _ (by omega)
  have HR := Lib.hid hr
  clear hr h
  go_enter Try.func62, Try.ntmps62
  go_wp2_with (first | (go_at_call 51; ((refine (HS.out _).mono ?_); rintro e w1 ⟨g, cap, rfl, hg, hgl, hcell, hb1⟩; have hs1 := hb1.size; have cl0 := hcell 0 (by simp); clear hcell; simp only [List.getElem_cons_zero, List.getElem_cons_succ] at cl0)) | (go_at_call 53; ((with_reducible refine (l1Read_any p _).mono ?_); rintro e w2 ⟨rfl, hb2⟩; have hs2 := hb2.size; )) | (go_at_call 48; (refine (l1In_any _ _ _ _).mono ?_; rintro e w' ⟨rfl, rfl⟩)))
  go_ret
  exact ⟨by rw [HR.out]; rfl, (by repeat (first | exact Below.refl _ _ | assumption | refine Below.drew ?_ | refine below_drewN ?_ _ | refine Below.alloc ?_ (by first | omega | (simp; done) | (simp; omega)) _ | refine Below.setCell ?_ (by first | omega | (simp; done) | (simp; omega)) _ | refine Below.trans ?_ (Below.mono (by assumption) (by first | omega | (simp; done) | (simp; omega)))))⟩

set_option maxHeartbeats 1000000 in
theorem stRead_two_no (l : List UInt8) {p q : List UInt8} (hl : l.length ≤ 1048576) (h : splitL 43 l = [p, q]) (hn : readL p < 0) (w : World) :
    Calls Try.prog 62 #[.string (bs l)] w fun e w' => e = .returned (.int .i64 (readP l)) ∧ Below w.heap.size w w' := by
  have HS := Lib.hid (l1Split_form l 43 43 rfl hl h rfl)
  simp only [List.length_cons, List.length_nil] at HS
  have hr := readP_2 h
  rw [if_pos hn] at hr
  have HR := Lib.hid hr
  clear hr h
  go_enter Try.func62, Try.ntmps62
  go_wp2_with (first | (go_at_call 51; ((refine (HS.out _).mono ?_); rintro e w1 ⟨g, cap, rfl, hg, hgl, hcell, hb1⟩; have hs1 := hb1.size; have cl0 := hcell 0 (by simp); have cl1 := hcell 1 (by simp); clear hcell; simp only [List.getElem_cons_zero, List.getElem_cons_succ] at cl0 cl1)) | (go_at_call 53; ((with_reducible refine (l1Read_any p _).mono ?_); rintro e w2 ⟨rfl, hb2⟩; have hs2 := hb2.size; have cl1 := (hb2.cell (p := ⟨g, 1, none⟩) hgl).trans cl1)) | (go_at_call 53; ((with_reducible refine (l1Read_any q _).mono ?_); rintro e w2 ⟨rfl, hb2⟩; have hs2 := hb2.size; )) | (go_at_call 48; (refine (l1In_any _ _ _ _).mono ?_; rintro e w' ⟨rfl, rfl⟩)))
  go_ret
  exact ⟨by rw [HR.out]; rfl, (by repeat (first | exact Below.refl _ _ | assumption | refine Below.drew ?_ | refine below_drewN ?_ _ | refine Below.alloc ?_ (by first | omega | (simp; done) | (simp; omega)) _ | refine Below.setCell ?_ (by first | omega | (simp; done) | (simp; omega)) _ | refine Below.trans ?_ (Below.mono (by assumption) (by first | omega | (simp; done) | (simp; omega)))))⟩

set_option maxHeartbeats 1000000 in
theorem stRead_two_rest (l : List UInt8) {p q : List UInt8} (hl : l.length ≤ 1048576) (h : splitL 43 l = [p, q]) (hn : ¬ readL p < 0) (hq : inB 1 (readL q) 7 = false) (w : World) :
    Calls Try.prog 62 #[.string (bs l)] w fun e w' => e = .returned (.int .i64 (readP l)) ∧ Below w.heap.size w w' := by
  have HS := Lib.hid (l1Split_form l 43 43 rfl hl h rfl)
  simp only [List.length_cons, List.length_nil] at HS
  have hr := readP_2 h
  rw [if_neg hn, if_neg (fun e => by rw [inB_iff.2 e] at hq; cases hq)] at hr
  have HR := Lib.hid hr
  clear hr h
  go_enter Try.func62, Try.ntmps62
  go_wp2_with (first | (go_at_call 51; ((refine (HS.out _).mono ?_); rintro e w1 ⟨g, cap, rfl, hg, hgl, hcell, hb1⟩; have hs1 := hb1.size; have cl0 := hcell 0 (by simp); have cl1 := hcell 1 (by simp); clear hcell; simp only [List.getElem_cons_zero, List.getElem_cons_succ] at cl0 cl1)) | (go_at_call 53; ((with_reducible refine (l1Read_any p _).mono ?_); rintro e w2 ⟨rfl, hb2⟩; have hs2 := hb2.size; have cl1 := (hb2.cell (p := ⟨g, 1, none⟩) hgl).trans cl1)) | (go_at_call 53; ((with_reducible refine (l1Read_any q _).mono ?_); rintro e w2 ⟨rfl, hb2⟩; have hs2 := hb2.size; )) | (go_at_call 48; (refine (l1In_any _ _ _ _).mono ?_; rintro e w' ⟨rfl, rfl⟩)))
  go_ret
  exact ⟨by rw [HR.out]; rfl, (by repeat (first | exact Below.refl _ _ | assumption | refine Below.drew ?_ | refine below_drewN ?_ _ | refine Below.alloc ?_ (by first | omega | (simp; done) | (simp; omega)) _ | refine Below.setCell ?_ (by first | omega | (simp; done) | (simp; omega)) _ | refine Below.trans ?_ (Below.mono (by assumption) (by first | omega | (simp; done) | (simp; omega)))))⟩

set_option maxHeartbeats 1000000 in
theorem stRead_two_yes (l : List UInt8) {p q : List UInt8} (hl : l.length ≤ 1048576) (h : splitL 43 l = [p, q]) (hn : ¬ readL p < 0) (hq : inB 1 (readL q) 7 = true) (w : World) :
    Calls Try.prog 62 #[.string (bs l)] w fun e w' => e = .returned (.int .i64 (readP l)) ∧ Below w.heap.size w w' := by
  have HS := Lib.hid (l1Split_form l 43 43 rfl hl h rfl)
  simp only [List.length_cons, List.length_nil] at HS
  have h1 := readL_lt p
  have h2 := inB_iff.1 hq
  obtain ⟨h3, h4⟩ := h2
  have hr := readP_2 h
  rw [if_neg hn, if_pos ⟨h3, h4⟩] at hr
  have v1 : IntKind.i64.wrap (8 * readL p) = 8 * readL p := IntWalk.i64_in _ (by omega)
  have v2 : IntKind.i64.wrap (8 * readL p + readL q) = 8 * readL p + readL q := IntWalk.i64_in _ (by omega)
  have HR := Lib.hid hr
  clear hr h
  go_enter Try.func62, Try.ntmps62
  go_wp2_with (first | (go_at_call 51; ((refine (HS.out _).mono ?_); rintro e w1 ⟨g, cap, rfl, hg, hgl, hcell, hb1⟩; have hs1 := hb1.size; have cl0 := hcell 0 (by simp); have cl1 := hcell 1 (by simp); clear hcell; simp only [List.getElem_cons_zero, List.getElem_cons_succ] at cl0 cl1)) | (go_at_call 53; ((with_reducible refine (l1Read_any p _).mono ?_); rintro e w2 ⟨rfl, hb2⟩; have hs2 := hb2.size; have cl1 := (hb2.cell (p := ⟨g, 1, none⟩) hgl).trans cl1)) | (go_at_call 53; ((with_reducible refine (l1Read_any q _).mono ?_); rintro e w2 ⟨rfl, hb2⟩; have hs2 := hb2.size; )) | (go_at_call 48; (refine (l1In_any _ _ _ _).mono ?_; rintro e w' ⟨rfl, rfl⟩)))
  go_ret
  exact ⟨by rw [HR.out]; rfl, (by repeat (first | exact Below.refl _ _ | assumption | refine Below.drew ?_ | refine below_drewN ?_ _ | refine Below.alloc ?_ (by first | omega | (simp; done) | (simp; omega)) _ | refine Below.setCell ?_ (by first | omega | (simp; done) | (simp; omega)) _ | refine Below.trans ?_ (Below.mono (by assumption) (by first | omega | (simp; done) | (simp; omega)))))⟩

set_option maxHeartbeats 1000000 in
theorem stRead_more (l : List UInt8) {p q r : List UInt8} {t : List (List UInt8)} (hl : l.length ≤ 1048576) (h : splitL 43 l = p :: q :: r :: t)  (w : World) :
    Calls Try.prog 62 #[.string (bs l)] w fun e w' => e = .returned (.int .i64 (readP l)) ∧ Below w.heap.size w w' := by
  have HS := Lib.hid (l1Split_form l 43 43 rfl hl h rfl)
  simp only [List.length_cons, List.length_nil] at HS
  have hr := readP_3 h
  have v1 : (2 : Int) < (t.length : Int) + 1 + 1 + 1 := by omega
  have v2 : (2 : Int) < ((t.length + 1 + 1 + 1 : Nat) : Int) := by omega
  have HR := Lib.hid hr
  clear hr h
  go_enter Try.func62, Try.ntmps62
  go_wp2_with (first | (go_at_call 51; ((refine (HS.out _).mono ?_); rintro e w1 ⟨g, cap, rfl, hg, hgl, hcell, hb1⟩; have hs1 := hb1.size; have cl0 := hcell 0 (by simp); clear hcell; simp only [List.getElem_cons_zero, List.getElem_cons_succ] at cl0)) | (go_at_call 53; ((with_reducible refine (l1Read_any p _).mono ?_); rintro e w2 ⟨rfl, hb2⟩; have hs2 := hb2.size; )) | (go_at_call 48; (refine (l1In_any _ _ _ _).mono ?_; rintro e w' ⟨rfl, rfl⟩)))
  go_ret
  exact ⟨by rw [HR.out]; rfl, (by repeat (first | exact Below.refl _ _ | assumption | refine Below.drew ?_ | refine below_drewN ?_ _ | refine Below.alloc ?_ (by first | omega | (simp; done) | (simp; omega)) _ | refine Below.setCell ?_ (by first | omega | (simp; done) | (simp; omega)) _ | refine Below.trans ?_ (Below.mono (by assumption) (by first | omega | (simp; done) | (simp; omega)))))⟩

theorem stRead_any (l : List UInt8) (hl : l.length ≤ 1048576) (w : World) :
    Calls Try.prog 62 #[.string (bs l)] w fun e w' => e = .returned (.int .i64 (readP l)) ∧ Below w.heap.size w w' := by
  match hL : splitL 43 l with
  | [] =>
    have := (splitL_length 43 l).1
    rw [hL] at this
    simp at this
  | [p] =>
    by_cases hn : readL p < 0
    · exact stRead_one_no l hl hL hn w
    · exact stRead_one_yes l hl hL hn w
  | [p, q] =>
    by_cases hn : readL p < 0
    · exact stRead_two_no l hl hL hn w
    · cases hq : inB 1 (readL q) 7
      · exact stRead_two_rest l hl hL hn hq w
      · exact stRead_two_yes l hl hL hn hq w
  | p :: q :: r :: t => exact stRead_more l hl hL w

end Go.Proofs.Ytagfleajkalgiaa
