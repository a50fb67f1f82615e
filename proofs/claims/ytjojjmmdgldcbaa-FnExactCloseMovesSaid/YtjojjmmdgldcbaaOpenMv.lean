/- A move handed in by value. No conditions. -/
import Derived.Test.YtjojjmmdgldcbaaOpenSt
namespace Go.Proofs.Ytjojjmmdgldcbaa
open Go.ChangeShapes Go.WideShapes Go.ChangeAt Go.RowKit
open Go.Deep Go.Joins

section
theorem array5 {α : Type} {cs : Array α} (h : cs.size = 5) : ∃ c0 c1 c2 c3 c4, cs = #[c0, c1, c2, c3, c4] := by
  obtain ⟨l⟩ := cs
  match l, h with
  | [c0, c1, c2, c3, c4], _ => exact ⟨c0, c1, c2, c3, c4, rfl⟩
variable {H : Type} {enc : TypeId × Value → H}
set_option maxRecDepth 100000 in
theorem trod_spot {W : World} {n : Nat} {c0 c1 : Value} {y : DataW H × List MemPlace} (h : DataW.trod enc Try.prog W 0 (fun _ => true) true n 23 [c0, c1] = some y) :
    ∃ x y : Int, c0 = .int .i64 x ∧ c1 = .int .i64 y := by
  obtain ⟨y0, y1, m, _, _, h0, h1⟩ := trod_struct2 Try.underlying23 h
  have h0' : DataW.trod enc Try.prog W 0 (fun _ => true) true m 3 [c0] = some y0 := h0
  have h1' : DataW.trod enc Try.prog W 0 (fun _ => true) true m 3 [c1] = some y1 := h1
  obtain ⟨a, e0, _, _⟩ := DataW.trod_int Try.underlying3 h0'
  obtain ⟨b, e1, _, _⟩ := DataW.trod_int Try.underlying3 h1'
  simp at e0 e1
  exact ⟨a, b, e0, e1⟩
set_option maxRecDepth 100000 in
/-- A move handed in by value. -/
theorem open_move {W : World} {base : Nat} {v : Value} {d : DataW H} {p : List MemPlace} (hv : Value.okWide Try.prog W .any base 25 v) (h : DataW.Trod enc Try.prog W 0 (fun _ => true) true 25 v d p) :
    ∃ x1 y1 x2 y2 n : Int, v = .agg #[.int .i64 x1, .int .i64 y1, .int .i64 x2, .int .i64 y2, .int .i64 n] := by
  obtain ⟨cs, rfl, hsz⟩ := okWide_struct Try.underlying25 hv
  obtain ⟨c0, c1, c2, c3, c4, rfl⟩ := array5 (hsz.trans (by kernel_rfl))
  obtain ⟨fuel, hf⟩ := h
  obtain ⟨y0, y1, y2, n, _, _, h0, h1, h2⟩ := trod_struct3 Try.underlying25 hf
  have h0' : DataW.trod enc Try.prog W 0 (fun _ => true) true n 23 [c0, c1] = some y0 := h0
  have h1' : DataW.trod enc Try.prog W 0 (fun _ => true) true n 23 [c2, c3] = some y1 := h1
  have h2' : DataW.trod enc Try.prog W 0 (fun _ => true) true n 3 [c4] = some y2 := h2
  obtain ⟨a, b, rfl, rfl⟩ := trod_spot h0'
  obtain ⟨c, d, rfl, rfl⟩ := trod_spot h1'
  obtain ⟨e, e2, _, _⟩ := DataW.trod_int Try.underlying3 h2'
  simp at e2
  subst e2
  exact ⟨a, b, c, d, e, rfl⟩
end

end Go.Proofs.Ytjojjmmdgldcbaa
