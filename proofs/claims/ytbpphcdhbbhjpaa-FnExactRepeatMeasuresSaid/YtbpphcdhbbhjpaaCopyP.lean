/- The builtin copy at lists of pairs. No conditions but those written in each theorem. -/
import Derived.Test.YtbpphcdhbbhjpaaOwn
import Derived.Laws.CopyRow
import Derived.Laws.CopyOwn
import Derived.Laws.AppendOwn
import Derived.Deep.DrawnRows
namespace Go.Proofs.Ytbpphcdhbbhjpaa
open Go.RowKit


theorem pairV_take : ∀ (l : List (Int × Int)) (n : Nat), (pairV l).take (n * 2) = pairV (l.take n)
  | [], n => by simp [pairV]
  | p :: r, 0 => by simp [pairV]
  | p :: r, n + 1 => by
    have e : (n + 1) * 2 = n * 2 + 1 + 1 := by omega
    rw [e]
    simp [pairV, pairV_take r n]
theorem pairV_drop : ∀ (l : List (Int × Int)) (n : Nat), (pairV l).drop (n * 2) = pairV (l.drop n)
  | [], n => by simp [pairV]
  | p :: r, 0 => by simp
  | p :: r, n + 1 => by
    have e : (n + 1) * 2 = n * 2 + 1 + 1 := by omega
    rw [e]
    simp [pairV, pairV_drop r n]
/-- The block g is the list ys, whole. -/
def RowP (ty : TypeId) (w : World) (g : Nat) (ys : List (Int × Int)) : Prop := w.heap[g]? = some (.cells (pairV ys).toArray ty (0, 0))
theorem RowP.cells {ty : TypeId} {w : World} {g : Nat} {ys : List (Int × Int)} (h : RowP ty w g ys) (n : Nat) : ∀ j u, (pairV (ys.take n))[j]? = some u → w.cell? ((⟨g, 0, none⟩ : Addr).add j) = some u := by
  intro j u hj
  rw [← pairV_take, List.getElem?_take] at hj
  split at hj
  · rw [Addr.add_lit, Nat.zero_add]
    have h2 : w.heap[g]? = some (.cells (pairV ys).toArray ty (0, 0)) := h
    simp [World.cell?, h2, hj]
  · cases hj
theorem RowP.own {ty : TypeId} {w : World} {g base : Nat} {ys : List (Int × Int)} (h : RowP ty w g ys) (hb : base ≤ g) (hl : ys.length ≤ maxLen) : OwnPairs ty w base (.slice (some ⟨g, 0, none⟩) ys.length ys.length) ys :=
  ⟨pairV_length ys, .inr ⟨g, ys.length, (pairV ys).toArray, rfl, hb, h, Nat.le_refl _, hl, by simp [pairV_length], by simp [List.take_of_length_le, pairV_length]⟩⟩
/-- What stands there once zs is written from place o on. -/
def spliceP (ys : List (Int × Int)) (o : Nat) (zs : List (Int × Int)) : List (Int × Int) := ys.take o ++ (zs ++ ys.drop (o + zs.length))
theorem spliceP_length {ys zs : List (Int × Int)} {o : Nat} (h : o + zs.length ≤ ys.length) : (spliceP ys o zs).length = ys.length := by
  unfold spliceP
  simp only [List.length_append, List.length_take, List.length_drop]
  omega
theorem splice_pairs (ys zs : List (Int × Int)) (o : Nat) : (pairV ys).take (o * 2) ++ (pairV zs ++ (pairV ys).drop (o * 2 + (pairV zs).length)) = pairV (spliceP ys o zs) := by
  unfold spliceP
  rw [pairV_take, pairV_length, ← Nat.add_mul, pairV_drop, pairV_append, pairV_append]
theorem run_copy_pairs {P : Program} (w : World) (dT sT ty elem : TypeId) (g o dLen dCap : Nat) (ad : Addr) (sLen sCap : Nat) (ys zs : List (Int × Int)) (t : TypeId)
    (hu : P.underlying dT = some (.slice elem)) (hs : (P.info? elem).map (·.size) = some 2) (hg : RowP t w g ys) (hn : zs.length = Nat.min sLen dLen)
    (hsrc : ∀ j v, (pairV zs)[j]? = some v → w.cell? (ad.add j) = some v) (hfit : o + zs.length ≤ ys.length) :
    (Builtin.copy_ #[dT, sT] ty #[.slice (some ⟨g, o * 2, none⟩) dLen dCap, .slice (some ad) sLen sCap]).run P w = .ok (goInt zs.length) (w.setRow g (pairV (spliceP ys o zs)).toArray) := by
  have hl := run_loadCells_list (P := P) w ad (pairV zs) hsrc
  have hst := run_storeCells_at P g (o * 2) t (pairV zs) 0 (pairV ys).toArray w hg (by simp [pairV_length]; omega) (pairV_one zs)
  rw [pairV_length] at hl
  have e := splice_pairs ys zs o
  cases hq : P.info? elem with
  | none => simp [hq] at hs
  | some i =>
    have hi : i.size = 2 := by simpa [hq] using hs
    simp only [Nat.add_zero, List.append_assoc] at hst
    rw [e] at hst
    simp [Builtin.copy_, run_underlying hu, Builtin.lenOf, Builtin.firstCells, sizeOf, typeInfo, hq, hi, ← hn, hl, hst]
theorem step_copy_pairs {P : Program} {ops : Array Oper} {o : Oper} {a : Act} {w : World} {K : Act → World → Prop} {Q : Exit → Act → World → Prop} {E : Prop} (hgd : o.guard = none) (d s : Operand) (dT sT : TypeId)
    (ho : o.op = .call { callee := .builtin .copy, args := #[d, s], argTypes := #[dT, sT] }) (elem : TypeId) (hu : P.underlying dT = some (.slice elem)) (hsz : (P.info? elem).map (·.size) = some 2)
    (g off dLen dCap : Nat) (ad : Addr) (sLen sCap : Nat) (hd : a.eval d = .slice (some ⟨g, off * 2, none⟩) dLen dCap) (hs : a.eval s = .slice (some ad) sLen sCap)
    (ys zs : List (Int × Int)) (t : TypeId) (hg : RowP t w g ys) (hn : zs.length = Nat.min sLen dLen)
    (hsrc : ∀ j v, (pairV zs)[j]? = some v → w.cell? (ad.add j) = some v) (hfit : off + zs.length ≤ ys.length) (B : Nat) (w0 : World) (hb : RowKit.Below B w0 w) (hBg : B ≤ g)
    (h : ∀ w', RowKit.Hid (RowP t w' g (spliceP ys off zs)) → RowKit.Below B w0 w' → K (a.put o.dst (goInt zs.length)) w') :
    if Region.wanted o (yielded ops a.tmps) = true then Oper.wp P o a w K Q else E := by
  have hw : Region.wanted o (yielded ops a.tmps) = true := by simp [Region.wanted, hgd]
  rw [if_pos hw]
  have hrun := run_copy_pairs (P := P) w dT sT o.type elem g off dLen dCap ad sLen sCap ys zs t hu hsz hg hn hsrc hfit
  unfold Oper.wp
  simp [execOp, ho, resolve, invoke, builtin, hd, hs, hrun, Result.andThen]
  exact h _ (Lib.hid (setRow_heap w g _ _ t _ hg)) (below_setRow hb hBg _)
theorem wpList_copy_pairs {P : Program} {w : World} {ops : Array Oper} {rest : List Oper} {o : Oper} {a : Act} {Q : Exit → Act → World → Prop} (hgd : o.guard = none) (d s : Operand) (dT sT : TypeId)
    (ho : o.op = .call { callee := .builtin .copy, args := #[d, s], argTypes := #[dT, sT] }) (elem : TypeId) (hu : P.underlying dT = some (.slice elem)) (hsz : (P.info? elem).map (·.size) = some 2)
    (g off dLen dCap : Nat) (ad : Addr) (sLen sCap : Nat) (hd : a.eval d = .slice (some ⟨g, off * 2, none⟩) dLen dCap) (hs : a.eval s = .slice (some ad) sLen sCap)
    (ys zs : List (Int × Int)) (t : TypeId) (hg : RowP t w g ys) (hn : zs.length = Nat.min sLen dLen)
    (hsrc : ∀ j v, (pairV zs)[j]? = some v → w.cell? (ad.add j) = some v) (hfit : off + zs.length ≤ ys.length) (B : Nat) (w0 : World) (hb : RowKit.Below B w0 w) (hBg : B ≤ g)
    (h : ∀ w', RowKit.Hid (RowP t w' g (spliceP ys off zs)) → RowKit.Below B w0 w' → wpList P ops Q rest (a.put o.dst (goInt zs.length)) w') : wpList P ops Q (o :: rest) a w := by
  refine wpList_plain hgd fun K hK => ?_
  have hrun := run_copy_pairs (P := P) w dT sT o.type elem g off dLen dCap ad sLen sCap ys zs t hu hsz hg hn hsrc hfit
  unfold Oper.wp
  simp [execOp, ho, resolve, invoke, builtin, hd, hs, hrun, Result.andThen]
  exact hK _ _ (h _ (Lib.hid (setRow_heap w g _ _ t _ hg)) (below_setRow hb hBg _))

end Go.Proofs.Ytbpphcdhbbhjpaa
