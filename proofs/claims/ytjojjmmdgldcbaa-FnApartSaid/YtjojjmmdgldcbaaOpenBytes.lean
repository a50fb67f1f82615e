/- Bytes handed in. No conditions. -/
import Derived.Test.YtjojjmmdgldcbaaCurDr
import Derived.Test.YtjojjmmdgldcbaaFrame
import Derived.Deep.Slices
namespace Go.Proofs.Ytjojjmmdgldcbaa
open Go.ChangeShapes Go.WideShapes Go.ChangeAt Go.RowKit
open Go.Deep


section
variable {H : Type} {enc : TypeId × Value → H}
set_option maxRecDepth 100000 in
theorem open_bytesS {W : World} {base : Nat} {v : Value} {d : DataW H} {p : List MemPlace} (hv : Value.okWide Try.prog W .any base 50 v) (h : DataW.Trod enc Try.prog W 0 (fun _ => true) true 50 v d p) :
    ∃ (a : Option Addr) (cap n : Nat), v = .slice a n cap ∧ BytesIn W a n ∧ n ≤ 9223372036854775807 := by
  obtain ⟨a0, len0, cap0, rfl⟩ := okWide_slice Try.underlying50 hv
  obtain ⟨fuel, hf⟩ := h
  rcases open_slice1 Try.underlying50 (by kernel_rfl) hf with ⟨hcs, _⟩ | ⟨a, len, cap, m, n, V, D, Pl, hcs, hb, hl, hm, hmm, _, hi⟩
  · simp [Value.cells] at hcs
    obtain ⟨rfl, rfl, rfl⟩ := hcs
    exact ⟨none, 0, 0, rfl, fun i h => absurd h (Nat.not_lt_zero i), by simp⟩
  · simp [Value.cells] at hcs
    obtain ⟨rfl, rfl, rfl⟩ := hcs
    have hlm : len0 ≤ m := by rw [hmm]; split <;> omega
    refine ⟨some a, cap0, len0, rfl, ?_, by unfold maxLen at hm; omega⟩
    intro i hlt
    obtain ⟨h0, h1⟩ := hi i (by omega)
    obtain ⟨x, e0, _, wf⟩ := DataW.trod_int Try.underlying5 h1
    simp at e0
    obtain ⟨h00, _⟩ := hi 0 (by omega)
    obtain ⟨b, off, spot⟩ := a
    have hspot : spot = none := by simpa [Addr.add] using World.cell?_spot h00
    subst hspot
    have hx : 0 ≤ x ∧ x ≤ 255 := by
      have : decide (IntKind.u8.min ≤ x) && decide (x ≤ IntKind.u8.max) := wf
      simp [IntKind.min, IntKind.max] at this
      first | omega | (simp [IntKind.signed, IntKind.bits] at this; omega)
    refine ⟨b, off, x, rfl, hx.1, hx.2, ?_⟩
    rw [← e0, ← Go.WideShapes.add_plain]
    exact h0
end

end Go.Proofs.Ytjojjmmdgldcbaa
