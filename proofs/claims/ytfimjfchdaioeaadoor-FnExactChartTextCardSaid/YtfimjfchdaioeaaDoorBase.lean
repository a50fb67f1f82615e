/- What every walk of this seat uses: worlds, bounds, texts. No conditions but those written in each theorem. -/
import Derived.Test.YtfimjfchdaioeaaDoorProg
import Derived.WalkKit
import Derived.WalkSpells
import Derived.WalkLawsBesides
import Derived.Deep.QuietTactic
import Derived.BigQuiet
import Derived.Lib.Hide
import Derived.Lib.Strings
import Derived.OwnWalk
import Derived.Deep.OwnRows
import Derived.Laws.OwnMore
import Derived.Laws.MakeOwn
namespace Go.Proofs.YtfimjfchdaioeaaDoor
open Go.RowKit

theorem below_drewN {B : Nat} {a w : World} (h : Below B a w) (n : Nat) : Below B a (w.drewN n) := ⟨h.os, h.tape, h.output, h.size, h.block⟩
theorem bcell {W w1 : World} (hb : Below W.heap.size W w1) : (∀ b o, b < W.heap.size → w1.cell? ⟨b, o, none⟩ = W.cell? ⟨b, o, none⟩) ∧ (∀ b o, b < W.heap.size → w1.frozen? ⟨b, o, none⟩ = W.frozen? ⟨b, o, none⟩) ∧ (∀ b, b < W.heap.size → b < w1.heap.size) :=
  ⟨fun b o h => hb.cell (p := ⟨b, o, none⟩) h, fun b o h => hb.frozen (p := ⟨b, o, none⟩) h, fun _ h => Nat.lt_of_lt_of_le h hb.size⟩

theorem bcellN {W w1 : World} (N : Nat) (hb : Below W.heap.size W w1) (hN : N ≤ W.heap.size) : (∀ b o, b < N → w1.cell? ⟨b, o, none⟩ = W.cell? ⟨b, o, none⟩) ∧ (∀ b o, b < N → w1.frozen? ⟨b, o, none⟩ = W.frozen? ⟨b, o, none⟩) ∧ (∀ b, b < N → b < w1.heap.size) :=
  ⟨fun b o h => hb.cell (p := ⟨b, o, none⟩) (Nat.lt_of_lt_of_le h hN), fun b o h => hb.frozen (p := ⟨b, o, none⟩) (Nat.lt_of_lt_of_le h hN), fun _ h => Nat.lt_of_lt_of_le (Nat.lt_of_lt_of_le h hN) hb.size⟩

theorem bneN {N : Nat} {w1 : World} (h : ∀ b, b < N → b < w1.heap.size) : (∀ b, b < N → ¬ w1.heap.size = b) ∧ (∀ b, b < N → ¬ b = w1.heap.size) :=
  ⟨fun b hb => by have := h b hb; omega, fun b hb => by have := h b hb; omega⟩
theorem bne {W w1 : World} (hb : Below W.heap.size W w1) : (∀ b, b < W.heap.size → ¬ w1.heap.size = b) ∧ (∀ b, b < W.heap.size → ¬ b = w1.heap.size) := bneN (bcell hb).2.2

theorem call_facts {N : Nat} {w0 W w1 : World} (h : ∀ b, b < N → b < w0.heap.size) (hb : Below W.heap.size W w1) (hw : w0.heap.size ≤ W.heap.size) :
    (∀ b, b < N → b < w1.heap.size) ∧ (∀ b, b < N → b ≤ w1.heap.size) ∧ (∀ b, b < N → ¬ w1.heap.size = b) ∧ (∀ b, b < N → ¬ b = w1.heap.size) ∧
      (∀ b o, b < N → w1.cell? ⟨b, o, none⟩ = W.cell? ⟨b, o, none⟩) ∧ (∀ b o, b < N → w1.frozen? ⟨b, o, none⟩ = W.frozen? ⟨b, o, none⟩) := by
  have hlt : ∀ b, b < N → b < W.heap.size := fun b hn => Nat.lt_of_lt_of_le (h b hn) hw
  have hlt' : ∀ b, b < N → b < w1.heap.size := fun b hn => Nat.lt_of_lt_of_le (hlt b hn) hb.size
  exact ⟨hlt', fun b hn => Nat.le_of_lt (hlt' b hn), fun b hn => by have := hlt' b hn; omega, fun b hn => by have := hlt' b hn; omega,
    fun b o hn => hb.cell (p := ⟨b, o, none⟩) (hlt b hn), fun b o hn => hb.frozen (p := ⟨b, o, none⟩) (hlt b hn)⟩
theorem base_facts (w1 : World) : (∀ b, b < w1.heap.size → b ≤ w1.heap.size) ∧ (∀ b, b < w1.heap.size → ¬ w1.heap.size = b) ∧ (∀ b, b < w1.heap.size → ¬ b = w1.heap.size) :=
  ⟨fun b h => by omega, fun b h => by omega, fun b h => by omega⟩
theorem nadd : (∀ n : Nat, ¬ (n + 1 + 1 = n)) ∧ (∀ n : Nat, ¬ (n + 1 + 1 + 1 = n)) ∧ (∀ n : Nat, ¬ (n = n + 1 + 1)) ∧ (∀ n : Nat, ¬ (n = n + 1 + 1 + 1)) ∧ (∀ n : Nat, n < n + 1 + 1) ∧ (∀ n : Nat, n < n + 1 + 1 + 1) ∧ (∀ n : Nat, n < n + 1 + 1 + 1 + 1) := by
  refine ⟨?_, ?_, ?_, ?_, ?_, ?_, ?_⟩ <;> (intro n; omega)

/-- A number if a condition holds, else 0. -/
def guardI (b : Bool) (n : Int) : Int := if b then n else 0

/-- A number within bounds. -/
def inB (lo n hi : Int) : Bool := decide (lo ≤ n ∧ n ≤ hi)
theorem inB_iff {lo n hi : Int} : inB lo n hi = true ↔ lo ≤ n ∧ n ≤ hi := by simp [inB]
theorem guardI_facts : (∀ n : Int, guardI true n = n) ∧ (∀ n : Int, guardI false n = 0) := ⟨fun _ => rfl, fun _ => rfl⟩
theorem ext_lt {k : Nat} {p : Nat → Prop} (h : ∀ j, j < k → p j) (hk : p k) : ∀ j, j < k + 1 → p j := by
  intro j hj
  by_cases e : j = k
  · rw [e]; exact hk
  · exact h j (by omega)
/-- The text with these bytes. -/
def bs (l : List UInt8) : ByteArray := ⟨l.toArray⟩
theorem bs_list (l : List UInt8) : (bs l).data.toList = l := rfl
theorem bs_size (l : List UInt8) : (bs l).size = l.length := rfl
theorem bs_of (s : ByteArray) : s = bs s.data.toList := rfl
theorem bs_toL (l : List UInt8) : (bs l).toList = l := by rw [ByteArray.toList_eq]; rfl
theorem bs_no {l : List UInt8} (h : l ≠ []) : ¬ (bs l).toList = [] := by rw [bs_toL]; exact h
theorem bs_noB {l : List UInt8} (h : l ≠ []) : (bs l).toList.isEmpty = false := by rw [bs_toL]; cases l with | nil => exact absurd rfl h | cons _ _ => rfl
theorem bs_get {l : List UInt8} {i : Nat} (h : i < (bs l).size) (h2 : i < l.length) : (bs l)[i]'h = l[i]'h2 := rfl
theorem bs_app (l m : List UInt8) : bs l ++ bs m = bs (l ++ m) := by
  apply ByteArray.ext
  rw [ByteArray.data_append]
  simp [bs]
theorem bs_extract (l : List UInt8) (i j : Nat) : (bs l).extract i j = bs ((l.drop i).take (j - i)) := by
  rw [Lib.extract_eq]
  rfl
theorem gb_refl (w : World) (r : Option Nat) : w.grownBy w r := ⟨rfl, rfl, rfl, Nat.le_refl _, fun _ _ _ => rfl⟩
theorem gb_trans {a b c : World} {r : Option Nat} (h : a.grownBy b r) (k : b.grownBy c r) : a.grownBy c r :=
  ⟨k.os.trans h.os, k.tape.trans h.tape, k.output.trans h.output, Nat.le_trans h.size k.size, fun i hi hne => (k.block i (Nat.lt_of_lt_of_le hi h.size) hne).trans (h.block i hi hne)⟩
theorem gb_set (w : World) (g j : Nat) (u : Value) : w.grownBy (w.setCell ⟨g, j, none⟩ u) (some g) :=
  ⟨rfl, rfl, rfl, by simp, fun k _ hk => Below.heap_setCell w ⟨g, j, none⟩ u k (fun e => hk (by simp [e]))⟩
theorem gb_below {w0 w w' : World} {g : Nat} (h : Below w0.heap.size w0 w) (hg : w.grownBy w' (some g)) (hge : w0.heap.size ≤ g) : Below w0.heap.size w0 w' :=
  ⟨hg.os.trans h.os, hg.tape.trans h.tape, hg.output.trans h.output, Nat.le_trans h.size hg.size, fun k hk => (hg.block k (Nat.lt_of_lt_of_le hk h.size) (fun e => by have := Option.some.inj e; omega)).trans (h.block k hk)⟩
theorem own_below {w w' : World} {base : Nat} {v : Value} {n : Nat} {xs : List Value} {e : TypeId} {s : Nat} (h : w.ownsRow base e s v n xs) (hb : Below w.heap.size w w') : w'.ownsRow base e s v n xs :=
  World.ownsRow.kept h (row := none) ⟨hb.os, hb.tape, hb.output, hb.size, fun k hk _ => hb.block k hk⟩ (by cases h' : v.ownBlock with | none => exact .inl rfl | some _ => exact .inr (by simp))
theorem own_mono {w : World} {b b' : Nat} {v : Value} {n : Nat} {xs : List Value} {e : TypeId} {s : Nat} (h : w.ownsRow b e s v n xs) (hb : b' ≤ b) : w.ownsRow b' e s v n xs := by
  refine ⟨h.1, ?_⟩
  rcases h.2 with h0 | ⟨g, cap, cur, e, hg, r⟩
  · exact .inl h0
  · exact .inr ⟨g, cap, cur, e, Nat.le_trans hb hg, r⟩

set_option maxHeartbeats 400000 in
theorem l1In_any (n lo hi : Int) (w : World) :
    Calls Tryd.prog 18 #[.int .i64 n, .int .i64 lo, .int .i64 hi] w fun e w' => e = .returned (.bool (inB lo n hi)) ∧ w = w' := by
  by_cases h : lo ≤ n <;> by_cases h2 : n ≤ hi
  all_goals
    go_enter Tryd.func18, Tryd.ntmps18
    go_wp2
    go_ret
    exact ⟨by (have hh : inB lo n hi = decide (lo ≤ n ∧ n ≤ hi) := rfl); simp [hh]; try omega, rfl⟩

end Go.Proofs.YtfimjfchdaioeaaDoor
