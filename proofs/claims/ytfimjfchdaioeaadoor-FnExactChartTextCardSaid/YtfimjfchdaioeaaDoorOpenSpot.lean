/- A list of Spot handed in: how it lies in memory. No conditions. -/
import Derived.Test.YtfimjfchdaioeaaDoorPairs
import Derived.Test.YtfimjfchdaioeaaDoorFrame
import Derived.Deep.SlicePairs
namespace Go.Proofs.YtfimjfchdaioeaaDoor
open Go.ChangeShapes Go.WideShapes Go.ChangeAt Go.RowKit
open Go.Deep


section
variable {H : Type} {enc : TypeId × Value → H}
set_option maxRecDepth 100000 in
theorem open_SpotS {W : World} {base : Nat} {v : Value} {d : DataW H} {p : List MemPlace} (hv : Value.okWide Tryd.prog W .any base 22 v) (h : DataW.Trod enc Tryd.prog W 0 (fun _ => true) true 22 v d p) :
    ∃ (a : Option Addr) (cap : Nat) (l : List (Int × Int)), v = .slice a l.length cap ∧ PairsAt W a l ∧ l.length ≤ 9223372036854775807 := by
  obtain ⟨a0, len0, cap0, rfl⟩ := okWide_slice Tryd.underlying22 hv
  obtain ⟨fuel, hf⟩ := h
  rcases open_slice_pairs Tryd.underlying22 Tryd.underlying35 (by kernel_rfl) rfl rfl (by kernel_rfl) (by kernel_rfl) hf with ⟨hcs, _⟩ | ⟨a, len, cap, m, n, V0, V1, D0, D1, P0, P1, hcs, _, hl, hm, hmm, _, hi⟩
  · simp [Value.cells] at hcs
    obtain ⟨rfl, rfl, rfl⟩ := hcs
    exact ⟨none, 0, [], rfl, PairsAt.nil _ _, by simp⟩
  · simp [Value.cells] at hcs
    obtain ⟨rfl, rfl, rfl⟩ := hcs
    have hlm : len0 ≤ m := by rw [hmm]; split <;> omega
    have each : ∀ i, ∃ q : Int × Int, i < len0 → W.cell? (a.add (i * 2)) = some (.int .i64 q.1) ∧ W.cell? (a.add (i * 2 + 1)) = some (.int .i64 q.2) := by
      intro i
      by_cases hlt : i < len0
      · obtain ⟨h0, h1, h2, h3⟩ := hi i (by omega)
        obtain ⟨x, e0, _, _⟩ := DataW.trod_int Tryd.underlying3 h2
        obtain ⟨y, e1, _, _⟩ := DataW.trod_int Tryd.underlying3 h3
        simp at e0 e1
        exact ⟨(x, y), fun _ => ⟨by rw [h0, e0], by rw [h1, e1]⟩⟩
      · exact ⟨(0, 0), fun hh => absurd hh hlt⟩
    refine ⟨some a, cap0, (List.range len0).map (fun i => Classical.choose (each i)), by simp, ?_, by simp; unfold maxLen at hm; omega⟩
    intro i hlt
    simp only [List.length_map, List.length_range] at hlt
    obtain ⟨h0, h1⟩ := Classical.choose_spec (each i) hlt
    obtain ⟨b, off, spot⟩ := a
    have h00 := (Classical.choose_spec (each 0) (by omega)).1
    have hspot : spot = none := by simpa [Addr.add] using World.cell?_spot h00
    subst hspot
    refine ⟨b, off, rfl, ?_, ?_⟩
    · have e : sx ((List.range len0).map (fun i => Classical.choose (each i))) i = (Classical.choose (each i)).1 := by simp [sx, List.getD_eq_getElem?_getD, hlt]
      rw [e, ← Go.WideShapes.add_plain]
      exact h0
    · have e : sy ((List.range len0).map (fun i => Classical.choose (each i))) i = (Classical.choose (each i)).2 := by simp [sy, List.getD_eq_getElem?_getD, hlt]
      rw [e, show off + i * 2 + 1 = off + (i * 2 + 1) by omega, ← Go.WideShapes.add_plain]
      exact h1
end

end Go.Proofs.YtfimjfchdaioeaaDoor
