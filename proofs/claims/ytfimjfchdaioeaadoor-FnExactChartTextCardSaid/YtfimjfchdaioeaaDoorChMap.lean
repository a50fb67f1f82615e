/- A map keyed by spots with bools, of one's own: what a store, a look-up and a deletion do. No conditions but those written in each theorem. -/
import Derived.Test.YtfimjfchdaioeaaDoorStL
import Derived.Maps.OwnSet
import Derived.Maps.OwnOps
import Derived.Maps.Views
import Derived.DeepKeys4
namespace Go.Proofs.YtfimjfchdaioeaaDoor
open Go.RowKit Go.Maps


theorem Tryd.laidOutK : laidOutB Tryd.prog = true := by kernel_rfl
theorem Tryd.rowSpot : (33 : TypeId) < Tryd.prog.types.size := of_decide_eq_true (by kernel_rfl)
theorem Tryd.wideSpot : (match Tryd.prog.underlying 33 with | some (.array _ _) | some (.struct _) => true | _ => false) = true := by kernel_rfl
set_option maxRecDepth 100000 in
theorem spotKeyed : Keyed Tryd.prog 33 := Keyed.of_law (deep_law_laid Tryd.laidOutK (m := 2) (by omega) Tryd.rowSpot (by kernel_rfl) Tryd.wideSpot)
theorem zeroBool (w : World) : (zeroValue 4).run Tryd.prog w = .ok (.bool false) w := by kernel_rfl
/-- What a spot reads as, as a key. -/
def kyl (x y : Int) : Lit := .string (keyBytes [.int .i64 x, .int .i64 y])
theorem kyl_key (x y : Int) : WideAt.IsKeyLit (kyl x y) := trivial
set_option maxRecDepth 100000 in
theorem keyOf_spot {x y : Int} (hx : (Lit.int .i64 x).wf = true) (hy : (Lit.int .i64 y).wf = true) : keyOf Tryd.prog 33 (.agg #[.int .i64 x, .int .i64 y]) = some (kyl x y) := by
  have hk : Tryd.prog.keyType 33 = true := by kernel_rfl
  have hc : Tryd.prog.cellsOf 33 = 2 := by kernel_rfl
  have hc3 : Tryd.prog.cellsOf 3 = 1 := by kernel_rfl
  obtain ⟨m, hm⟩ : ∃ m, Tryd.prog.types.size = m + 1 := ⟨Tryd.prog.types.size - 1, by have h : 0 < Tryd.prog.types.size := of_decide_eq_true (by kernel_rfl); exact (Nat.sub_add_cancel h).symm⟩
  have hu := Tryd.underlying33
  have h3 := Tryd.underlying3
  have hf : (Value.agg #[.int .i64 x, .int .i64 y]).formed Tryd.prog 33 = true := by simp only [Value.formed, hu, hc]; rfl
  have hx3 : Tryd.prog.keyLits (m + 1) 3 [.int .i64 x] = some [.int .i64 x] := by simp [Program.keyLits, h3, hx]
  have hy3 : Tryd.prog.keyLits (m + 1) 3 [.int .i64 y] = some [.int .i64 y] := by simp [Program.keyLits, h3, hy]
  have hl : Tryd.prog.keyLits (m + 1 + 1) 33 [.int .i64 x, .int .i64 y] = some [.int .i64 x, .int .i64 y] := by
    unfold Program.keyLits
    rw [hu]
    simp [hc, hc3, hx3, hy3]
  unfold keyOf
  simp only [hu]
  rw [hk, hf, hm]
  have hcs : (Value.agg #[.int .i64 x, .int .i64 y]).cells.toList = [.int .i64 x, .int .i64 y] := rfl
  rw [hcs, hl]
  rfl
theorem kyl_inj {x y x' y' : Int} (hx : (Lit.int .i64 x).wf = true) (hy : (Lit.int .i64 y).wf = true) (hx' : (Lit.int .i64 x').wf = true) (hy' : (Lit.int .i64 y').wf = true) (h : kyl x y = kyl x' y') : x = x' ∧ y = y' := by
  have h1 := keyOf_spot hx hy
  have h2 := keyOf_spot hx' hy'
  rw [← h] at h2
  have h3 := spotKeyed.inj h1 h2
  simpa using h3
theorem wf_on {x y : Int} (h : onField x y = true) : (Lit.int .i64 x).wf = true ∧ (Lit.int .i64 y).wf = true := by
  obtain ⟨⟨a, b⟩, c, d⟩ := onField_iff.1 h
  exact ⟨WalkArith.wf_i64 (by omega), WalkArith.wf_i64 (by omega)⟩

end Go.Proofs.YtfimjfchdaioeaaDoor
