/- slices.Concat over lists of Spot. Conditions: those written in each theorem. -/
import Derived.Test.YtjpkbgijphkibaaOwn
import Derived.Test.YtjpkbgijphkibaaToSpot
import Derived.Test.YtjpkbgijphkibaaGrowSpot
import Derived.Deep.RegionHeld3
import Derived.Deep.DrawnRows
import Derived.IntWalk
import Derived.Laws.AppendOwn
import Derived.Deep.LoopGhost
namespace Go.Proofs.Ytjpkbgijphkibaa
open Go.RowKit


attribute [local go_sem ↓] Go.wp_at_zero Go.wp_at_succ

theorem grow0_anySpot (n : Nat) (h0 : 1 ≤ n) (h1 : n ≤ 1048576) (w : World) :
    Calls Try.prog 66 #[.slice none 0 0, .int .i64 n] w fun e w' => ∃ v, e = .returned v ∧ OwnPairs 27 w' w.heap.size v [] ∧ Below w.heap.size w w' := by
  obtain ⟨j0, hi, hz0, hz1, hz2⟩ := info_parts Try.infoSpot
  refine (Any8.slices_Grow_grow Try.growSpot j0 (.agg #[.int .i64 0, .int .i64 0]) hi hz0 (by rw [hz1]; omega) none 0 0 n [] w (Nat.le_refl _) (by omega) (by rw [hz2]; omega) (by omega) (by simp) (fun _ => rfl) (fun a h => by cases h)).mono ?_
  rintro e w' ⟨rfl, rfl⟩
  refine ⟨_, rfl, ?_, ?_⟩
  · refine World.ownsRow_made w.drew _ _ (Nat.le_refl _) (grownCap_le_maxLen _ _ _ _ (by unfold maxLen; omega)) ?_
    have hg := grownCap_ge w (0 + n) 0 (Try.growSpot_ren.t 25)
    have e : (Value.agg #[.int .i64 0, .int .i64 0]).cells.size = 2 := rfl
    simp only [Nat.zero_add] at hg
    simp [Builtin.zeroCells, e]
    omega
  · exact ((Below.refl _ _).drew).alloc (Nat.le_refl _) _
/-- These slices of pairs lie there, one behind the other. -/
def SlAtSpot (w : World) (gs : Nat) (XS : List (Addr × Nat × List (Int × Int))) : Prop :=
  ∀ i (h : i < XS.length), w.cell? ⟨gs, i, none⟩ = some (.slice (some (XS[i]'h).1) (XS[i]'h).2.2.length (XS[i]'h).2.1) ∧ ∀ j u, (pairV (XS[i]'h).2.2)[j]? = some u → w.cell? ((XS[i]'h).1.add j) = some u
theorem SlAtSpot.below {w w' : World} {gs : Nat} {XS : List (Addr × Nat × List (Int × Int))} (h : SlAtSpot w gs XS) (hb : Below w.heap.size w w') : SlAtSpot w' gs XS := by
  intro i hi
  obtain ⟨h0, h1⟩ := h i hi
  exact ⟨(hb.cell (World.block_lt_of_cell? w _ h0)).trans h0, fun j u hj => (hb.cell (World.block_lt_of_cell? w _ (h1 j u hj))).trans (h1 j u hj)⟩
/-- The first k of them in one list. -/
def catXSpot (XS : List (Addr × Nat × List (Int × Int))) : Nat → List (Int × Int)
  | 0 => []
  | k + 1 => catXSpot XS k ++ ((XS[k]?).map (·.2.2)).getD []
theorem catX_stepSpot {XS : List (Addr × Nat × List (Int × Int))} {k : Nat} (h : k < XS.length) : catXSpot XS (k + 1) = catXSpot XS k ++ (XS[k]'h).2.2 := by rw [catXSpot, List.getElem?_eq_getElem h]; rfl
theorem catX_monoSpot {XS : List (Addr × Nat × List (Int × Int))} : ∀ {j k : Nat}, k ≤ j → (catXSpot XS k).length ≤ (catXSpot XS j).length
  | 0, k, h => by obtain rfl : k = 0 := by omega
                  exact Nat.le_refl _
  | j + 1, k, h => by
    by_cases e : k = j + 1
    · rw [e]; exact Nat.le_refl _
    · have := catX_monoSpot (XS := XS) (j := j) (k := k) (by omega)
      rw [catXSpot, List.length_append]
      omega

set_option maxHeartbeats 4000000 in
theorem concat_anySpot (gs cp n : Nat) (XS : List (Addr × Nat × List (Int × Int))) (hn : XS.length = n) (hn2 : n ≤ 1000) (h1 : 1 ≤ (catXSpot XS n).length) (h2 : (catXSpot XS n).length ≤ 1048576) {w : World} (hs : SlAtSpot w gs XS) :
    Calls Try.prog 55 #[.slice (some ⟨gs, 0, none⟩) n cp] w fun e w' => ∃ v, e = .returned v ∧ OwnPairs 27 w' w.heap.size v (catXSpot XS n) ∧ Below w.heap.size w w' := by
  obtain ⟨j0, hi, hz0, hz1, hz2⟩ := info_parts Try.infoSpot
  have HI := Lib.hid hi
  have HZ0 := Lib.hid hz0
  have HZ1 := Lib.hid hz1
  have HZ2 := Lib.hid hz2
  clear hi hz0 hz1 hz2
  have HS := Lib.hid hs
  have HN := Lib.hid hn
  clear hs hn
  go_enter Try.func55, Try.ntmps55
  go_wp2
  go_loopw [3, 11] (fun sz i wr => ∃ k : Nat, k ≤ n ∧ i = .int .i64 k ∧ sz = .int .i64 ((catXSpot XS k).length : Nat) ∧ Below w.heap.size w wr) (fun _ i _ => n - (intOf i).toNat)
  case atStart => exact ⟨0, Nat.zero_le _, rfl, rfl, Below.refl _ _⟩
  case round =>
    obtain ⟨k, hk, rfl, rfl, hbr⟩ := hrel
    have hsr := hbr.size
    have hmo := catX_monoSpot (XS := XS) hk
    by_cases hlt : k < n
    · have hkx : k < XS.length := by rw [HN.out]; exact hlt
      obtain ⟨c0, c1⟩ := (HS.out.below hbr) k hkx
      have hst := catX_stepSpot hkx
      have hmo2 := catX_monoSpot (XS := XS) (j := n) (k := k + 1) (by omega)
      have hsl : (catXSpot XS (k + 1)).length = (catXSpot XS k).length + (XS[k]'hkx).2.2.length := by rw [hst, List.length_append]
      obtain ⟨X, hX⟩ : ∃ X, X = XS[k]'hkx := ⟨_, rfl⟩
      rw [← hX] at c0 hsl
      obtain ⟨ad, cx, xs⟩ := X
      simp only at c0 hsl
      obtain ⟨q, hq⟩ : ∃ q, q = (catXSpot XS k).length := ⟨_, rfl⟩
      obtain ⟨q2, hq2⟩ : ∃ q, q = (catXSpot XS (k + 1)).length := ⟨_, rfl⟩
      have HQ2 := Lib.hid hq2
      rw [← hq] at hsl hmo ⊢
      rw [← hq2] at hsl hmo2
      have i0 : (0 : Int) ≤ (k : Int) := by omega
      have i1 : (k : Int) < (n : Int) := by omega
      have v1 : IntKind.i64.wrap ((q : Int) + (xs.length : Int)) = (q2 : Int) := by rw [IntWalk.i64_in _ (by omega)]; omega
      have v2 : ¬ (q2 : Int) < 0 := by omega
      have v3 : decide ((q2 : Int) < 0) = false := decide_eq_false v2
      have v4 : (q : Int) + (xs.length : Int) = (q2 : Int) := by omega
      clear c1 hst hX hq hq2 hsl
      go_wp2
      go_roundw
      case rel => exact ⟨k + 1, by omega, by go_num, by rw [← HQ2.out], (by repeat (first | exact Below.refl _ _ | assumption | refine Below.drew ?_ | refine below_drewN ?_ _ | refine Below.alloc ?_ (by first | omega | (simp; done) | (simp; omega)) _ | refine Below.setCell ?_ (by first | omega | (simp; done) | (simp; omega)) _ | refine Below.trans ?_ (Below.mono (by assumption) (by first | omega | (simp; done) | (simp; omega)))))⟩
      case measure => simp [intOf]; omega
    · obtain rfl : k = n := by omega
      have HGR := Lib.hid (fun W => grow0_anySpot (catXSpot XS k).length h1 h2 W)
      go_wp2_with (go_at_call 66; (refine (HGR.out _).mono ?_); rintro e w2 ⟨v2, rfl, ho2, hb2⟩; have hs2 := hb2.size)
      have hb3 : Below w.heap.size w w2 := (by repeat (first | exact Below.refl _ _ | assumption | refine Below.drew ?_ | refine below_drewN ?_ _ | refine Below.alloc ?_ (by first | omega | (simp; done) | (simp; omega)) _ | refine Below.setCell ?_ (by first | omega | (simp; done) | (simp; omega)) _ | refine Below.trans ?_ (Below.mono (by assumption) (by first | omega | (simp; done) | (simp; omega)))))
      have ho3 := own_mono ho2 hsr
      have HO3 := Lib.hid ho3
      clear ho2 hb2 hs2 ho3
      have hs3 := hb3.size
      go_loopw [6, 27] (fun ov i wr => ∃ (j : Nat) (vo : Value), j ≤ k ∧ i = .int .i64 j ∧ ov = vo ∧ Hid (OwnPairs 27 wr w.heap.size vo (catXSpot XS j)) ∧ Below w.heap.size w wr) (fun _ i _ => k - (intOf i).toNat)
      case atStart => exact ⟨0, _, Nat.zero_le _, rfl, rfl, HO3, hb3⟩
      case round =>
        obtain ⟨j, vo, hj, rfl, hv, HOWN, hbr2⟩ := hrel
        replace hv := hv.symm
        subst hv
        have hsr2 := hbr2.size
        by_cases hlt2 : j < k
        · have hkx : j < XS.length := by rw [HN.out]; exact hlt2
          obtain ⟨c0, c1⟩ := (HS.out.below hbr2) j hkx
          have hst := catX_stepSpot hkx
          have hmo2 := catX_monoSpot (XS := XS) (j := k) (k := j + 1) (by omega)
          have hsl : (catXSpot XS (j + 1)).length = (catXSpot XS j).length + (XS[j]'hkx).2.2.length := by rw [hst, List.length_append]
          obtain ⟨X, hX⟩ : ∃ X, X = XS[j]'hkx := ⟨_, rfl⟩
          rw [← hX] at c0 c1 hsl hst
          obtain ⟨ad, cx, xs⟩ := X
          simp only at c0 c1 hsl hst
          obtain ⟨acc, hacc⟩ : ∃ acc, acc = catXSpot XS j := ⟨_, rfl⟩
          rw [← hacc] at HOWN hsl hst
          have i0 : (0 : Int) ≤ (j : Int) := by omega
          have i1 : (j : Int) < (k : Int) := by omega
          have HC1 := Lib.hid c1
          have HST := Lib.hid hst
          clear hX c1 hst hacc hmo
          go_wp2_with (at_builtin; refine wpList_append_own _ rfl _ _ 24 rfl (w.heap.size) 27 j0 (.agg #[.int .i64 0, .int .i64 0]) 2 16 Try.underlying24 HI.out HZ0.out HZ1.out HZ2.out rfl (by decide) _ _ _ rfl HOWN.out ad xs.length cx (pairV xs) rfl ?c1 ?c2 ?c3 ?c4 ?c5 ?c6 ?_)
          (try case c1 => exact pairV_length xs)
          (try case c2 => exact HC1.out)
          (try case c3 => exact pairV_one _)
          (try case c4 => unfold maxLen; omega)
          (try case c5 => omega)
          (try case c6 => omega)
          intro v5 w5 hown5 hgrow5 hnil5
          have hol := World.ownsRow.lt HOWN.out
          have hb5 : Below w.heap.size w w5 := hbr2.grown hgrow5 (by omega) (fun x hx => (hol x hx).1)
          have hown6 : OwnPairs 27 w5 w.heap.size v5 (catXSpot XS (j + 1)) := by
            rw [HST.out, OwnPairs, pairV_append, List.length_append]
            exact hown5
          have HO6 := Lib.hid hown6
          clear hown5 hgrow5 hnil5 hown6 hol
          have hs5 := hb5.size
          go_wp2
          go_roundw
          case rel => exact ⟨j + 1, _, by omega, by go_num, rfl, HO6, hb5⟩
          case measure => simp [intOf]; omega
        · obtain rfl : j = k := by omega
          go_wp2
          go_ret
          exact ⟨_, rfl, HOWN.out, (by repeat (first | exact Below.refl _ _ | assumption | refine Below.drew ?_ | refine below_drewN ?_ _ | refine Below.alloc ?_ (by first | omega | (simp; done) | (simp; omega)) _ | refine Below.setCell ?_ (by first | omega | (simp; done) | (simp; omega)) _ | refine Below.trans ?_ (Below.mono (by assumption) (by first | omega | (simp; done) | (simp; omega)))))⟩

end Go.Proofs.Ytjpkbgijphkibaa
