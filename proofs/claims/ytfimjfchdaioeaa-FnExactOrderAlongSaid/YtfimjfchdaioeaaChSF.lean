/- The library's sort of at most 12 numbers by the places of a chart, whole. Conditions: those written in each theorem. -/
import Derived.Test.YtfimjfchdaioeaaChSI
import Derived.Test.YtfimjfchdaioeaaChBL
import Derived.Deep.RegionHeld3
import Derived.Deep.DrawnRows
namespace Go.Proofs.Ytfimjfchdaioeaa
open Go.RowKit


attribute [local go_sem ↓] Go.wp_at_zero Go.wp_at_succ

set_option maxRecDepth 100000 in
set_option maxHeartbeats 1000000 in
theorem sortI_pdq (l : List (Int × Int)) (h12 : l.length ≤ 12) (P g cap base : Nat) (d0 : List Nat) (hp0 : d0.Perm (List.range l.length)) {w : World} (hA : ArrAt w P (plA l)) (hP : P < base) (hO : OwnN w base g cap l.length d0) (hbg : base ≤ g) (hbw : base ≤ w.heap.size) (h1 : 1 ≤ l.length) (lim : Int) :
    Calls Try.prog 83 #[.slice (some ⟨g, 0, none⟩) l.length cap, .int .i64 0, .int .i64 (l.length : Int), .int .i64 lim, .func (Fn.func 71) #[] #[.pointer (some ⟨P, 0, none⟩)]] w fun e w' => e = .returned (.tuple #[]) ∧ (∃ d, d.Perm (List.range l.length) ∧ d.Pairwise (fun x y => ¬ ltP (pt l y) (pt l x)) ∧ OwnN w' base g cap l.length d) ∧ Below base w w' := by
  have HI := Lib.hid (insI_any l h12 P g cap base d0 hp0 hA hP hO hbg hbw h1)
  have i1 : (l.length : Int) ≤ 12 := by omega
  have v1 : IntKind.i64.wrap (l.length : Int) = (l.length : Int) := IntWalk.i64_in _ (by omega)
  have v2 : IntKind.i64.wrap ((l.length : Int) - 0) = (l.length : Int) := by rw [Int.sub_zero]; exact v1
  go_enter Try.func83, Try.ntmps83
  go_wp2
  refine wp_loop_rounds 1 ?_
  rw [rounds_succ]
  go_wp2_with (go_at_call 95; ((with_reducible refine HI.out.mono ?_); rintro e w' ⟨rfl, hpost⟩))
  (try simp only [Exit.inBlock, Exit.then])
  refine bodyPost_ret (results_none rfl _ _ _) rfl ?_
  exact ⟨rfl, hpost⟩
set_option maxRecDepth 100000 in
set_option maxHeartbeats 1000000 in
theorem sortI_sort (l : List (Int × Int)) (h12 : l.length ≤ 12) (P g cap base : Nat) (d0 : List Nat) (hp0 : d0.Perm (List.range l.length)) {w : World} (hA : ArrAt w P (plA l)) (hP : P < base) (hO : OwnN w base g cap l.length d0) (hbg : base ≤ g) (hbw : base ≤ w.heap.size) (h1 : 1 ≤ l.length) :
    Calls Try.prog 70 #[.slice (some ⟨g, 0, none⟩) l.length cap, .func (Fn.func 71) #[] #[.pointer (some ⟨P, 0, none⟩)]] w fun e w' => e = .returned (.tuple #[]) ∧ (∃ d, d.Perm (List.range l.length) ∧ d.Pairwise (fun x y => ¬ ltP (pt l y) (pt l x)) ∧ OwnN w' base g cap l.length d) ∧ Below base w w' := by
  have HP := Lib.hid (fun lim => sortI_pdq l h12 P g cap base d0 hp0 hA hP hO hbg hbw h1 lim)
  have HB := Lib.hid (fun W => bitsLen_any l.length h12 W)
  have v1 : IntKind.u64.wrap (l.length : Int) = (l.length : Int) := by rw [IntKind.wrap_u64]; omega
  go_enter Try.func70, Try.ntmps70
  go_wp2_with (first | (go_at_call 84; ((with_reducible refine (HB.out _).mono ?_); rintro e w' ⟨⟨m, rfl⟩, rfl⟩)) | (go_at_call 83; ((with_reducible refine (HP.out _).mono ?_); rintro e w' ⟨rfl, hpost⟩)))
  go_end0
  exact ⟨rfl, hpost⟩

end Go.Proofs.Ytfimjfchdaioeaa
