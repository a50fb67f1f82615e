/- Moved spots, both sides. No conditions but those written in each theorem. -/
import Derived.Test.YtfimjfchdaioeaaStIf
import Derived.Deep.RegionHeld3
import Derived.Deep.DrawnRows
namespace Go.Proofs.Ytfimjfchdaioeaa
open Go.RowKit


attribute [local go_sem ↓] Go.wp_at_zero Go.wp_at_succ

/-- May the spot be moved so? -/
def canMove (x y dx dy : Int) : Bool := onField x y && inB (-2000) dx 2000 && inB (-2000) dy 2000 && onField (x + dx) (y + dy)

set_option maxHeartbeats 1000000 in
theorem moveSpot_any (x y dx dy : Int) (w : World) :
    Calls Try.prog 58 #[.agg #[.int .i64 x, .int .i64 y], .int .i64 dx, .int .i64 dy] w fun e w' => e = .returned (.tuple #[.agg #[.int .i64 (guardI (canMove x y dx dy) (x + dx)), .int .i64 (guardI (canMove x y dx dy) (y + dy))], .bool (canMove x y dx dy)]) ∧ Below w.heap.size w w' := by
  obtain ⟨q1, q2, q3, q4, q5, q6, q7⟩ := nadd
  have hcm : canMove x y dx dy = (onField x y && inB (-2000) dx 2000 && inB (-2000) dy 2000 && onField (x + dx) (y + dy)) := rfl
  have Hcm := Lib.hid hcm
  clear hcm
  obtain ⟨gt, gf⟩ := guardI_facts
  have hI := fun W => spotOf_any (x + dx) (y + dy) W
  cases h1 : onField x y <;> cases h2 : inB (-2000) dx 2000 <;> cases h3 : inB (-2000) dy 2000 <;> cases h4 : onField (x + dx) (y + dy)
  all_goals
    rw [h4] at hI
    have HI := Lib.hid hI
    clear hI
  case' true.true.true.false => obtain ⟨⟨a1, a2⟩, a3, a4⟩ := onField_iff.1 h1; obtain ⟨b1, b2⟩ := inB_iff.1 h2; obtain ⟨b3, b4⟩ := inB_iff.1 h3
  case' true.true.true.true => obtain ⟨⟨a1, a2⟩, a3, a4⟩ := onField_iff.1 h1; obtain ⟨b1, b2⟩ := inB_iff.1 h2; obtain ⟨b3, b4⟩ := inB_iff.1 h3
  all_goals
    go_enter Try.func58, Try.ntmps58
    go_wp2_with (first | (go_at_call 79; (refine (isSpot_any _ _ _).mono ?_; rintro e w1 ⟨rfl, hb1⟩; have hs1 := hb1.size; (try simp at hs1); obtain ⟨hcn, hfn, hln⟩ := bcellN (w.heap.size + 2) hb1 (by first | omega | (simp; done) | (simp; omega)); have hz0 : w.heap.size < w1.heap.size := (by omega); have hz1 : w.heap.size + 1 < w1.heap.size := (by omega); (first | have hk4 := call_facts hl3 hb1 (by simp) | skip); (first | have hk3 := call_facts hl2 hb1 (by simp) | skip); (first | have hk2 := call_facts hl1 hb1 (by simp) | skip); have hk1 := call_facts (fun b h => h) hb1 (Nat.le_refl _); (first | have hl4 := hk4.1 | skip); (first | have hl3 := hk3.1 | skip); (first | have hl2 := hk2.1 | skip); have hl1 := hk1.1)) | (go_at_call 78; (refine (inRange_any _ _ _ _).mono ?_; rintro e w' ⟨rfl, rfl⟩)) | (go_at_call 81; (refine (HI.out _).mono ?_; rintro e w1 ⟨rfl, hb1⟩; have hs1 := hb1.size; (try simp at hs1); (first | have hk4 := call_facts hl3 hb1 (by simp) | skip); (first | have hk3 := call_facts hl2 hb1 (by simp) | skip); (first | have hk2 := call_facts hl1 hb1 (by simp) | skip); have hk1 := call_facts (fun b h => h) hb1 (Nat.le_refl _); (first | have hl4 := hk4.1 | skip); (first | have hl3 := hk3.1 | skip); (first | have hl2 := hk2.1 | skip); have hl1 := hk1.1)))
    first | exact bodyPost_ret (v := .tuple #[.agg #[.int .i64 0, .int .i64 0], .bool false]) (by simp [results, Try.results58, go_sem, *]) rfl ⟨(by rw [Hcm.out, h1, h2, h3, h4]; rfl), (by repeat (first | exact Below.refl _ _ | assumption | refine Below.drew ?_ | refine below_drewN ?_ _ | refine Below.alloc ?_ (by first | omega | (simp; done) | (simp; omega)) _ | refine Below.setCell ?_ (by first | omega | (simp; done) | (simp; omega)) _ | refine Below.trans ?_ (Below.mono (by assumption) (by first | omega | (simp; done) | (simp; omega)))))⟩ | exact bodyPost_ret (v := .tuple #[.agg #[.int .i64 (x + dx), .int .i64 (y + dy)], .bool true]) (by simp [results, Try.results58, go_sem, *]) rfl ⟨(by rw [Hcm.out, h1, h2, h3, h4]; rfl), (by repeat (first | exact Below.refl _ _ | assumption | refine Below.drew ?_ | refine below_drewN ?_ _ | refine Below.alloc ?_ (by first | omega | (simp; done) | (simp; omega)) _ | refine Below.setCell ?_ (by first | omega | (simp; done) | (simp; omega)) _ | refine Below.trans ?_ (Below.mono (by assumption) (by first | omega | (simp; done) | (simp; omega)))))⟩

end Go.Proofs.Ytfimjfchdaioeaa
