/- A map keyed by spots with bools, of one's own: what a store, a look-up and a deletion do. No conditions but those written in each theorem. -/
import Derived.Test.YtfimjfchdaioeaaStL
import Derived.Maps.OwnSet
import Derived.Maps.OwnOps
import Derived.Maps.Views
import Derived.DeepKeys4
namespace Go.Proofs.Ytfimjfchdaioeaa
open Go.RowKit Go.Maps


theorem Try.laidOutK : laidOutB Try.prog = true := by kernel_rfl
theorem Try.rowSpot : (41 : TypeId) < Try.prog.types.size := of_decide_eq_true (by kernel_rfl)
theorem Try.wideSpot : (match Try.prog.underlying 41 with | some (.array _ _) | some (.struct _) => true | _ => false) = true := by kernel_rfl
set_option maxRecDepth 100000 in
theorem spotKeyed : Keyed Try.prog 41 := Keyed.of_law (deep_law_laid Try.laidOutK (m := 2) (by omega) Try.rowSpot (by kernel_rfl) Try.wideSpot)
theorem zeroBool (w : World) : (zeroValue 4).run Try.prog w = .ok (.bool false) w := by kernel_rfl
/-- What a spot reads as, as a key. -/
def kyl (x y : Int) : Lit := .string (keyBytes [.int .i64 x, .int .i64 y])
theorem kyl_key (x y : Int) : WideAt.IsKeyLit (kyl x y) := trivial
set_option maxRecDepth 100000 in
theorem keyOf_spot {x y : Int} (hx : (Lit.int .i64 x).wf = true) (hy : (Lit.int .i64 y).wf = true) : keyOf Try.prog 41 (.agg #[.int .i64 x, .int .i64 y]) = some (kyl x y) := by
  have hk : Try.prog.keyType 41 = true := by kernel_rfl
  have hc : Try.prog.cellsOf 41 = 2 := by kernel_rfl
  have hc3 : Try.prog.cellsOf 3 = 1 := by kernel_rfl
  obtain ⟨m, hm⟩ : ∃ m, Try.prog.types.size = m + 1 := ⟨Try.prog.types.size - 1, by have h : 0 < Try.prog.types.size := of_decide_eq_true (by kernel_rfl); exact (Nat.sub_add_cancel h).symm⟩
  have hu := Try.underlying41
  have h3 := Try.underlying3
  have hf : (Value.agg #[.int .i64 x, .int .i64 y]).formed Try.prog 41 = true := by simp only [Value.formed, hu, hc]; rfl
  have hx3 : Try.prog.keyLits (m + 1) 3 [.int .i64 x] = some [.int .i64 x] := by simp [Program.keyLits, h3, hx]
  have hy3 : Try.prog.keyLits (m + 1) 3 [.int .i64 y] = some [.int .i64 y] := by simp [Program.keyLits, h3, hy]
  have hl : Try.prog.keyLits (m + 1 + 1) 41 [.int .i64 x, .int .i64 y] = some [.int .i64 x, .int .i64 y] := by
    unfold Program.keyLits
    rw [hu]
    simp [hc, hc3, hx3, hy3]
  unfold keyOf
  simp only [hu]
  rw [hk, hf, hm]
  have hcs : (Value.agg #[.int .i64 x, .int .i64 y]).cells.toList = [.int .i64 x, .int .i64 y] := rfl
  rw [hcs, hl]
  rfl
theorem kyl_inj {x y x' y' : Int} (hx : (Lit.int .i64 x).wf = true) (hy : (Lit.int .i64 y).wf = true) (hx' : (Lit.int .i64 x').wf = true) (hy' : (Lit.int .i64 y').wf = true) (h : kyl x y = kyl x' y') : x = x' ∧ y = y' := by
  have h1 := keyOf_spot hx hy
  have h2 := keyOf_spot hx' hy'
  rw [← h] at h2
  have h3 := spotKeyed.inj h1 h2
  simpa using h3
theorem wf_on {x y : Int} (h : onField x y = true) : (Lit.int .i64 x).wf = true ∧ (Lit.int .i64 y).wf = true := by
  obtain ⟨⟨a, b⟩, c, d⟩ := onField_iff.1 h
  exact ⟨WalkArith.wf_i64 (by omega), WalkArith.wf_i64 (by omega)⟩

end Go.Proofs.Ytfimjfchdaioeaa
