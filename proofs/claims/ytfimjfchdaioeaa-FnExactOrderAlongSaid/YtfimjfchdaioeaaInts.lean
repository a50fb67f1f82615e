/- Lists of numbers that a call makes: comparison, marks. No conditions but those written in each theorem. -/
import Derived.Test.YtfimjfchdaioeaaUtil
import Derived.Laws.OwnMore
import Derived.OwnWalk
import Derived.Deep.OwnRows
namespace Go.Proofs.Ytfimjfchdaioeaa
open Go.RowKit

/-- A slice's elements lie there: the numbers xs. -/
def IntsAt (w : World) (a : Option Addr) (xs : List Int) : Prop :=
  ∀ i, i < xs.length → ∃ b off, a = some ⟨b, off, none⟩ ∧ w.cell? ⟨b, off + i, none⟩ = some (.int .i64 (xs.getD i 0))
theorem IntsAt.below {w w' : World} {a : Option Addr} {xs : List Int} (h : IntsAt w a xs) (hb : Below w.heap.size w w') : IntsAt w' a xs := by
  intro i hi
  obtain ⟨b, off, ha, h0⟩ := h i hi
  exact ⟨b, off, ha, (hb.cell (World.block_lt_of_cell? w _ h0)).trans h0⟩
theorem IntsAt.other {w w' : World} {a : Option Addr} {xs : List Int} {g : Nat} (h : IntsAt w a xs) (hg : w.grownBy w' (some g)) (hne : ∀ x, a = some x → x.block ≠ g) : IntsAt w' a xs := by
  intro i hi
  obtain ⟨b, off, ha, h0⟩ := h i hi
  exact ⟨b, off, ha, hg.cell h0 (fun e => hne _ ha (Option.some.inj e))⟩

/-- The slice v owns the numbers xs, in a block from base on. -/
abbrev OwnInts (w : World) (base : Nat) (v : Value) (xs : List Int) : Prop := w.ownsRow base 3 1 v xs.length (xs.map (Value.int .i64))
theorem own_formI {w : World} {base : Nat} {v : Value} {xs : List Int} (h : OwnInts w base v xs) :
    (v = .slice none 0 0 ∧ xs = []) ∨ ∃ g cap, v = .slice (some ⟨g, 0, none⟩) xs.length cap ∧ base ≤ g ∧ g < w.heap.size := by
  have hl := World.ownsRow.lt h
  rcases h.2 with ⟨rfl, h0⟩ | ⟨g, cap, cur, rfl, hb, hh, _⟩
  · exact .inl ⟨rfl, List.length_eq_zero_iff.1 h0⟩
  · exact .inr ⟨g, cap, rfl, hb, (hl g rfl).2⟩
theorem own_ints {w : World} {base g cap : Nat} {xs : List Int} (h : OwnInts w base (.slice (some ⟨g, 0, none⟩) xs.length cap) xs) : IntsAt w (some ⟨g, 0, none⟩) xs := by
  intro i hi
  refine ⟨g, 0, rfl, ?_⟩
  rw [Nat.zero_add, World.ownsRow.cellAt h i (by omega)]
  simp [List.getD_eq_getElem?_getD, hi]
/-- The marks 1, 2, 3, .. -/
def ones (n : Nat) : List Int := (List.range n).map fun (i : Nat) => (1 : Int) + (i : Int)
theorem ones_length (n : Nat) : (ones n).length = n := by simp [ones]
theorem ones_get (n i : Nat) (h : i < n) : (ones n).getD i 0 = 1 + i := by simp [ones, List.getD_eq_getElem?_getD, h]

set_option maxHeartbeats 1000000 in
theorem eqIntS_same (a a' : Option Addr) (cap cap' : Nat) (xs : List Int) (hl : xs.length ≤ 1048576) {w : World} (ha : IntsAt w a xs) (ha' : IntsAt w a' xs) :
    Calls Try.prog 36 #[.slice a xs.length cap, .slice a' xs.length cap'] w fun e w' => e = .returned (.bool true) ∧ Below w.heap.size w w' := by
  go_enter Try.func36, Try.ntmps36
  go_wp2
  go_loopw [5] (fun i wr => ∃ k : Nat, k ≤ xs.length ∧ i = .int .i64 k ∧ Below w.heap.size w wr) (fun i _ => xs.length - (intOf i).toNat)
  case atStart => exact ⟨0, Nat.zero_le _, rfl, Below.refl _ _⟩
  case round =>
    obtain ⟨k, hk, rfl, hbr⟩ := hrel
    have hsr := hbr.size
    by_cases hlt : k < xs.length
    · obtain ⟨b, off, rfl, c0⟩ := (ha.below hbr) k hlt
      obtain ⟨b', off', rfl, d0⟩ := (ha'.below hbr) k hlt
      obtain ⟨n, hn⟩ : ∃ n : Int, n = xs.getD k 0 := ⟨_, rfl⟩
      rw [← hn] at c0 d0
      clear hn
      have i0 : (0 : Int) ≤ (k : Int) := by omega
      have i1 : (k : Int) < (xs.length : Int) := by omega
      go_wp2
      go_quiet (fail)
      go_wp2
      go_roundw
      case rel => exact ⟨k + 1, by omega, by go_num, (by repeat (first | exact Below.refl _ _ | assumption | refine Below.drew ?_ | refine below_drewN ?_ _ | refine Below.alloc ?_ (by first | omega | (simp; done) | (simp; omega)) _ | refine Below.setCell ?_ (by first | omega | (simp; done) | (simp; omega)) _ | refine Below.trans ?_ (Below.mono (by assumption) (by first | omega | (simp; done) | (simp; omega)))))⟩
      case measure => simp [intOf]; omega
    · go_wp2
      go_ret
      exact ⟨rfl, (by repeat (first | exact Below.refl _ _ | assumption | refine Below.drew ?_ | refine below_drewN ?_ _ | refine Below.alloc ?_ (by first | omega | (simp; done) | (simp; omega)) _ | refine Below.setCell ?_ (by first | omega | (simp; done) | (simp; omega)) _ | refine Below.trans ?_ (Below.mono (by assumption) (by first | omega | (simp; done) | (simp; omega)))))⟩

set_option maxHeartbeats 1000000 in
theorem heldIntS_ones (a : Option Addr) (cap n : Nat) (hl : n ≤ 1048576) {w : World} (ha : IntsAt w a (ones n)) :
    Calls Try.prog 38 #[.slice a n cap, .int .i64 1] w fun e w' => e = .returned (.int .i64 (1 + n)) ∧ w = w' := by
  go_enter Try.func38, Try.ntmps38
  go_wp2
  go_loop [1, 5] (fun m i => ∃ k : Nat, k ≤ n ∧ i = .int .i64 k ∧ m = .int .i64 (1 + k)) (fun _ i => n - (intOf i).toNat)
  case atStart => exact ⟨0, Nat.zero_le _, rfl, rfl⟩
  case round =>
    obtain ⟨k, hk, rfl, rfl⟩ := hrel
    by_cases hlt : k < n
    · obtain ⟨b, off, rfl, c0⟩ := ha k (by rw [ones_length]; exact hlt)
      rw [ones_get n k hlt] at c0
      have i0 : (0 : Int) ≤ (k : Int) := by omega
      have i1 : (k : Int) < (n : Int) := by omega
      go_wp2
      go_round
      case rel => exact ⟨k + 1, by omega, by go_num, by go_num⟩
      case measure => simp [intOf]; omega
    · obtain rfl : k = n := by omega
      go_wp2
      go_ret
      exact ⟨rfl, rfl⟩

set_option maxHeartbeats 1000000 in
theorem markIntS_nil (w : World) :
    Calls Try.prog 37 #[.slice none 0 0, .int .i64 1] w fun e w' => e = .returned (.int .i64 1) ∧ w = w' := by
  go_enter Try.func37, Try.ntmps37
  go_wp2
  refine wp_loop_rounds 1 ?_
  rw [rounds_succ]
  go_wp2
  go_ret
  exact ⟨rfl, rfl⟩

theorem set_markI (ys : List Value) (k : Nat) (u : Value) (h : k < ys.length) (hp : ∀ j, j < k → ys[j]? = some (.int .i64 (1 + (j : Int)))) (hu : u = .int .i64 (1 + (k : Int))) :
    ∀ j, j < k + 1 → (ys.set k u)[j]? = some (.int .i64 (1 + (j : Int))) := by
  intro j hj
  rw [List.getElem?_set]
  by_cases e : k = j
  · subst e
    rw [if_pos rfl, if_pos h, hu]
  · rw [if_neg e]
    exact hp j (by omega)
set_option maxHeartbeats 1000000 in
theorem markIntS_own (base g cap n : Nat) (xs : List Value) (hl : n ≤ 1048576) {w : World} (ho : w.ownsRow base 3 1 (.slice (some ⟨g, 0, none⟩) n cap) n xs) :
    Calls Try.prog 37 #[.slice (some ⟨g, 0, none⟩) n cap, .int .i64 1] w fun e w' => e = .returned (.int .i64 (1 + n)) ∧ IntsAt w' (some ⟨g, 0, none⟩) (ones n) ∧ w.grownBy w' (some g) := by
  go_enter Try.func37, Try.ntmps37
  go_wp2
  go_loopw [1, 5] (fun m i wr => ∃ (k : Nat) (ys : List Value), k ≤ n ∧ i = .int .i64 k ∧ m = .int .i64 (1 + k) ∧ (∀ j, j < k → ys[j]? = some (.int .i64 (1 + (j : Int)))) ∧ wr.ownsRow base 3 1 (.slice (some ⟨g, 0, none⟩) n cap) n ys ∧ w.grownBy wr (some g)) (fun _ i _ => n - (intOf i).toNat)
  case atStart => exact ⟨0, xs, Nat.zero_le _, rfl, rfl, fun j h => absurd h (Nat.not_lt_zero j), ho, gb_refl _ _⟩
  case round =>
    obtain ⟨k, ys, hk, rfl, rfl, hp, hown, hg⟩ := hrel
    have Hp := Lib.hid hp
    clear hp
    by_cases hlt : k < n
    · have hyl := hown.1
      have hst := hown.stored k (.int .i64 (1 + (k : Int)))
      have hsm := set_markI ys k _ (by omega) Hp.out rfl
      have Hsm := Lib.hid hsm
      have Hst := Lib.hid hst
      have hc0 := hown.cellAt k (by omega)
      obtain ⟨u, hu⟩ : ∃ u, ys[k]? = some u := ⟨_, List.getElem?_eq_getElem (by omega)⟩
      have c0 : wr.cell? ⟨g, k, none⟩ = some u := hc0.trans hu
      have f0 := hown.frozenAt k
      clear hst hsm hyl hc0 hu
      have i0 : (0 : Int) ≤ (k : Int) := by omega
      have i1 : (k : Int) < (n : Int) := by omega
      go_wp2
      go_roundw
      case rel => exact ⟨k + 1, _, by omega, by go_num, by go_num, Hsm.out, Hst.out.1, gb_trans hg Hst.out.2⟩
      case measure => simp [intOf]; omega
    · obtain rfl : k = n := by omega
      go_wp2
      go_ret
      refine ⟨rfl, ?_, hg⟩
      intro i hi
      rw [ones_length] at hi
      refine ⟨g, 0, rfl, ?_⟩
      rw [Nat.zero_add, hown.cellAt i (by omega), ones_get k i hi]
      exact Hp.out i hi


theorem own_viewI {w : World} {base : Nat} {v : Value} {xs : List Int} (h : OwnInts w base v xs) :
    ∃ (a : Option Addr) (cap : Nat), v = .slice a xs.length cap ∧ IntsAt w a xs ∧ ∀ x, a = some x → base ≤ x.block ∧ x.block < w.heap.size := by
  rcases own_formI h with ⟨rfl, rfl⟩ | ⟨g, cap, rfl, h1, h2⟩
  · exact ⟨none, 0, rfl, fun i hi => absurd hi (Nat.not_lt_zero i), fun x hx => by cases hx⟩
  · exact ⟨some ⟨g, 0, none⟩, cap, rfl, own_ints h, fun x hx => by cases hx; exact ⟨h1, h2⟩⟩
theorem ints_other {w w' : World} {a : Option Addr} {xs : List Int} {r : Option Nat} (h : IntsAt w a xs) (hg : w.grownBy w' r) (hne : ∀ x, a = some x → some x.block ≠ r) : IntsAt w' a xs := by
  intro i hi
  obtain ⟨b, off, ha, h0⟩ := h i hi
  exact ⟨b, off, ha, hg.cell h0 (fun e => hne _ ha e)⟩
theorem markIntS_any (a : Option Addr) (base cap : Nat) (xs : List Int) (hl : xs.length ≤ 1048576) {w : World} (ho : OwnInts w base (.slice a xs.length cap) xs) :
    Calls Try.prog 37 #[.slice a xs.length cap, .int .i64 1] w fun e w' => e = .returned (.int .i64 (1 + xs.length)) ∧ IntsAt w' a (ones xs.length) ∧ w.grownBy w' (a.map (·.block)) := by
  rcases own_formI ho with ⟨h1, rfl⟩ | ⟨g, cap', h1, _, _⟩
  · simp only [List.length_nil, Value.slice.injEq, and_true, true_and] at h1
    obtain ⟨rfl, rfl⟩ := h1
    refine (markIntS_nil w).mono fun e w' ⟨he, hw⟩ => ⟨by rw [he]; rfl, fun i hi => by rw [ones_length] at hi; exact absurd hi (Nat.not_lt_zero i), by rw [← hw]; exact gb_refl _ _⟩
  · simp only [Value.slice.injEq, true_and] at h1
    obtain ⟨rfl, rfl⟩ := h1
    exact markIntS_own base g cap xs.length (xs.map (Value.int .i64)) hl ho
theorem Try.infoInt : (Try.prog.info? 3).map (fun i => (i.zero, i.size, i.bytes)) = some (some (.int .i64 0), 1, 8) := by kernel_rfl
theorem own_stepI {w w1 w2 : World} {base nb : Nat} {v v' : Value} {xs : List Int} {n : Int} (hb : Below base w w1) (hB : nb ≤ w1.heap.size) (hbn : base ≤ nb) (hown : OwnInts w1 nb v xs)
    (hown' : w2.ownsRow nb 3 1 v' (xs.length + 1) (xs.map (Value.int .i64) ++ [.int .i64 n])) (hg : (w1.alloc (.cells #[.int .i64 n] 3)).grownBy w2 v.ownBlock) :
    OwnInts w2 nb v' (xs ++ [n]) ∧ Below base w w2 ∧ (∀ b o u, b < nb → w1.cell? ⟨b, o, none⟩ = some u → w2.cell? ⟨b, o, none⟩ = some u) ∧ w1.heap.size < w2.heap.size := by
  have hlt := World.ownsRow.lt hown
  refine ⟨by simpa [OwnInts] using hown', (hb.alloc (by omega) _).grown hg (by simp; omega) (fun k hk => Nat.le_trans hbn (hlt k hk).1), fun b o u hbb hc => hg.cell ?_ (fun e => by have := (hlt b e.symm).1; omega), ?_⟩
  · rw [World.cell?_alloc_past _ _ _ (World.block_lt_of_cell? w1 _ hc)]
    exact hc
  · have := hg.size
    simp at this
    omega

end Go.Proofs.Ytfimjfchdaioeaa
