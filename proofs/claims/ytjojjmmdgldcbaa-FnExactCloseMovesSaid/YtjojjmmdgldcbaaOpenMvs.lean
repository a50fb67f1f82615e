/- A list of moves handed in: how it lies in memory. No conditions. -/
import Derived.Test.YtjojjmmdgldcbaaMvs
import Derived.Test.YtjojjmmdgldcbaaOpenMv
import Derived.Test.YtjojjmmdgldcbaaFrame
import Derived.Deep.SlicePairs
namespace Go.Proofs.Ytjojjmmdgldcbaa
open Go.ChangeShapes Go.WideShapes Go.ChangeAt Go.RowKit
open Go.Deep


section
variable {H : Type} {enc : TypeId × Value → H}
set_option maxRecDepth 100000 in
theorem open_MoveS {W : World} {base : Nat} {v : Value} {d : DataW H} {p : List MemPlace} (hv : Value.okWide Try.prog W .any base 43 v) (h : DataW.Trod enc Try.prog W 0 (fun _ => true) true 43 v d p) :
    ∃ (a : Option Addr) (cap : Nat) (l : List (Int × Int × Int × Int × Int)), v = .slice a l.length cap ∧ MovesAt W a l ∧ l.length ≤ 9223372036854775807 := by
  obtain ⟨a0, len0, cap0, rfl⟩ := okWide_slice Try.underlying43 hv
  obtain ⟨fuel, hf⟩ := h
  have hce : Program.cellsOf Try.prog 25 = 5 := by kernel_rfl
  rcases open_slice Try.underlying43 hf with ⟨hcs, _⟩ | ⟨a, len, cap, m, n, D, Pl, hcs, hb, hl, hm, hmm, _, hi⟩
  · simp [Value.cells] at hcs
    obtain ⟨rfl, rfl, rfl⟩ := hcs
    exact ⟨none, 0, [], rfl, MovesAt.nil _ _, by simp⟩
  · simp [Value.cells] at hcs
    obtain ⟨rfl, rfl, rfl⟩ := hcs
    have hlm : len0 ≤ m := by rw [hmm]; split <;> omega
    have each : ∀ i, ∃ q : (Int × Int × Int × Int × Int), i < len0 → ∀ j, j < 5 → W.cell? (a.add (i * 5 + j)) = some (.int .i64 (mget q j)) := by
      intro i
      by_cases hlt : i < len0
      · obtain ⟨cs', h1, h2⟩ := hi i (by omega)
        rw [hce] at h1
        obtain ⟨_, hlen, hcell⟩ := World.cells?_some h1
        match cs', hlen, hcell, h2 with
        | [c0, c1, c2, c3, c4], _, hcell, h2 =>
          obtain ⟨y0, y1, y2, n', _, _, h0, h1, h2⟩ := trod_struct3 Try.underlying25 h2
          have h0' : DataW.trod enc Try.prog W 0 (fun _ => true) true n' 23 [c0, c1] = some y0 := h0
          have h1' : DataW.trod enc Try.prog W 0 (fun _ => true) true n' 23 [c2, c3] = some y1 := h1
          have h2' : DataW.trod enc Try.prog W 0 (fun _ => true) true n' 3 [c4] = some y2 := h2
          obtain ⟨x1, x2, rfl, rfl⟩ := trod_spot h0'
          obtain ⟨x3, x4, rfl, rfl⟩ := trod_spot h1'
          obtain ⟨x5, e2, _, _⟩ := DataW.trod_int Try.underlying3 h2'
          simp at e2
          subst e2
          refine ⟨(x1, x2, x3, x4, x5), fun _ j hj => ?_⟩
          have hj' := hcell j hj
          rw [add_add] at hj'
          rw [hj']
          match j, hj with
          | 0, _ => rfl
          | 1, _ => rfl
          | 2, _ => rfl
          | 3, _ => rfl
          | 4, _ => rfl
      · exact ⟨(0, 0, 0, 0, 0), fun hh => absurd hh hlt⟩
    refine ⟨some a, cap0, (List.range len0).map (fun i => Classical.choose (each i)), by simp, ?_, by simp; unfold maxLen at hm; omega⟩
    intro i hlt
    simp only [List.length_map, List.length_range] at hlt
    have hsp := Classical.choose_spec (each i) hlt
    obtain ⟨b, off, spot⟩ := a
    have h00 := (Classical.choose_spec (each 0) (by omega)) 0 (by omega)
    have hspot : spot = none := by simpa [Addr.add] using World.cell?_spot h00
    subst hspot
    have e : ∀ j, mc ((List.range len0).map (fun i => Classical.choose (each i))) i j = mget (Classical.choose (each i)) j := by intro j; simp [mc, List.getD_eq_getElem?_getD, hlt]
    have hh : ∀ j, j < 5 → W.cell? ⟨b, off + i * 5 + j, none⟩ = some (.int .i64 (mc ((List.range len0).map (fun i => Classical.choose (each i))) i j)) := by
      intro j hj
      rw [e j, show off + i * 5 + j = off + (i * 5 + j) by omega, ← Go.WideShapes.add_plain]
      exact hsp j hj
    exact ⟨b, off, rfl, hh 0 (by omega), hh 1 (by omega), hh 2 (by omega), hh 3 (by omega), hh 4 (by omega)⟩
end

end Go.Proofs.Ytjojjmmdgldcbaa
