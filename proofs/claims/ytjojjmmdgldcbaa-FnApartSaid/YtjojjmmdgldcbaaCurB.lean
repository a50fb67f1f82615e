/- The cursor's choices among numbers, spots. No conditions but those written in each theorem. -/
import Derived.Test.YtjojjmmdgldcbaaCur
import Derived.Deep.RegionHeld3
import Derived.Deep.DrawnRows
import Derived.IntWalk
import Derived.Laws.AppendOwn
namespace Go.Proofs.Ytjojjmmdgldcbaa
open Go.RowKit


attribute [local go_sem ↓] Go.wp_at_zero Go.wp_at_succ

/-- The numbers of a list lie there. -/
def LsAt (w : World) (g : Nat) (xs : List Int) : Prop := ∀ i (h : i < xs.length), w.cell? ⟨g, i, none⟩ = some (.int .i64 xs[i])
theorem ls_alloc {w : World} (xs : List Int) (t : TypeId) : LsAt (w.alloc (.cells (xs.map (Value.int .i64)).toArray t)) w.heap.size xs := by
  intro i hi
  rw [World.cell?_alloc_at _ _ _ _ rfl]
  simp [hi]
theorem Cu.made {w : World} {b n cp k : Nat} {a : Option Addr} (h : Cu w b a n cp k) (o : Obj) : Cu (w.alloc o) b a n cp k := h.go ((Below.refl _ _).alloc (Nat.le_refl _) _)
theorem gb_ownB {w W w' : World} {b : Nat} {r : Option Nat} (h : w.grownBy W (some b)) (hg : W.grownBy w' r) (hr : ∀ q, r = some q → w.heap.size ≤ q) : w.grownBy w' (some b) :=
  ⟨hg.os.trans h.os, hg.tape.trans h.tape, hg.output.trans h.output, Nat.le_trans h.size hg.size, fun k hk hne => (hg.block k (Nat.lt_of_lt_of_le hk h.size) (fun e => by have := hr k e.symm; omega)).trans (h.block k hk hne)⟩
theorem Cu.awayB {w0 w w' : World} {b n cp k0 k : Nat} {a : Option Addr} {r : Option Nat} (h0 : Cu w0 b a n cp k0) (h : Cu w b a n cp k) (hg : w.grownBy w' r) (hr : ∀ q, r = some q → w0.heap.size ≤ q) : Cu w' b a n cp k := by
  obtain ⟨p, s, h1, h2, h3, h4, h5⟩ := h.cs
  have hl := h.lt
  have hb0 := h0.lt
  have hbr : some b ≠ r := fun e => by have := hr b e.symm; omega
  have hf : ∀ o, w'.frozen? ⟨b, o, none⟩ = w.frozen? ⟨b, o, none⟩ := fun o => World.frozen?_of_block (hg.block b hl hbr)
  refine ⟨hg.cell h.c0 hbr, ⟨p, s, h1, h2, h3, hg.cell h4 hbr, hg.cell h5 hbr⟩, (hf 1).trans h.f1, (hf 2).trans h.f2, ?_⟩
  intro i hi
  obtain ⟨bl, off, x, e, hne, hx, hx2, hc⟩ := h.by_ i hi
  obtain ⟨bl0, off0, x0, e0, _, _, _, hc0⟩ := h0.by_ i hi
  have hlt0 : bl0 < w0.heap.size := World.block_lt_of_cell? w0 _ hc0
  rw [e] at e0
  cases e0
  exact ⟨bl, off, x, e, hne, hx, hx2, hg.cell hc (fun e2 => by have := hr bl e2.symm; omega)⟩
theorem gb_froz {w w' : World} {b g o : Nat} {v : Bool} (hg : w.grownBy w' (some b)) (hl : g < w.heap.size) (hne : g ≠ b) (h : w.frozen? ⟨g, o, none⟩ = v) : w'.frozen? ⟨g, o, none⟩ = v :=
  (World.frozen?_of_block (hg.block g hl (fun e => hne (Option.some.inj e)))).trans h
theorem gb_cell {w w' : World} {b g o : Nat} {v : Value} (hg : w.grownBy w' (some b)) (hne : g ≠ b) (h : w.cell? ⟨g, o, none⟩ = some v) : w'.cell? ⟨g, o, none⟩ = some v := hg.cell h (fun e => hne (Option.some.inj e))
theorem gb_made {w w' : World} {r : Option Nat} (h : w.grownBy w' r) (o : Obj) : w.grownBy (w'.alloc o) r := gb_trans h (gb_of_below ((Below.refl _ _).alloc (Nat.le_refl _) _))
set_option maxHeartbeats 2000000 in
theorem amongL_any (g c1 : Nat) (xs : List Int) (h0 : 1 ≤ xs.length) (h1 : xs.length ≤ 1000) (b n cp k : Nat) (a : Option Addr) (hk : k ≤ 900000000) {w : World} (hc : Cu w b a n cp k) (hl : LsAt w g xs) (hne : g ≠ b) :
    Calls Try.prog 85 #[.pointer (some ⟨b, 0, none⟩), .slice (some ⟨g, 0, none⟩) xs.length c1] w fun e w' => ∃ r : Int, e = .returned (.int .i64 r) ∧ r ∈ xs ∧ Cu w' b a n cp (k + 2) ∧ w.grownBy w' (some b) := by
  have HCX := Lib.hid hc
  have HL := Lib.hid hl
  clear hc hl
  go_enter Try.func85, Try.ntmps85
  go_wp2_with fail
  refine (pick_any (xs.length : Int) (by omega) b n cp k a hk HCX.out).mono ?_
  rintro e w1 ⟨r1, rfl, h10, h11, hc1, hg1⟩
  have hr : r1 < (xs.length : Int) := by omega
  obtain ⟨i, rfl⟩ := Int.eq_ofNat_of_zero_le h10
  have hi : i < xs.length := by omega
  have hx := HL.out i hi
  have hx3 := hg1.cell hx (fun e => hne (Option.some.inj e))
  obtain ⟨x, hxe⟩ : ∃ x, x = xs[i] := ⟨_, rfl⟩
  have HM := Lib.hid (show x ∈ xs by rw [hxe]; exact List.getElem_mem hi)
  rw [← hxe] at hx3
  have HC1 := Lib.hid hc1
  have HG1 := Lib.hid hg1
  clear hc1 hg1 h11 hx hxe
  go_wp2
  go_ret
  exact ⟨x, rfl, HM.out, HC1.out, HG1.out⟩

set_option maxHeartbeats 4000000 in
theorem spotC_any (b n cp k : Nat) (a : Option Addr) (hk : k ≤ 800000000) {w : World} (hc : Cu w b a n cp k) :
    Calls Try.prog 105 #[.pointer (some ⟨b, 0, none⟩)] w fun e w' => ∃ x y : Int, e = .returned (.agg #[.int .i64 x, .int .i64 y]) ∧ Cu w' b a n cp (k + 12) ∧ w.grownBy w' (some b) := by
  have hbl := hc.lt
  have HC0 := Lib.hid hc
  go_enter Try.func105, Try.ntmps105
  go_wp2_with fail
  refine (pick_any 161 (by omega) b n cp (k) a (by omega) (hc.made _)).mono ?_
  rintro e w1 ⟨r1, rfl, p10, p11, hc1, hg1⟩
  have hl1 := hc1.lt
  have v1 : IntKind.i64.wrap (8 * r1) = 8 * r1 := IntWalk.i64_in _ (by omega)
  go_wp2_with fail
  refine (pick_any 1281 (by omega) b n cp (k + 2) a (by omega) hc1).mono ?_
  rintro e w2 ⟨r2, rfl, p20, p21, hc2, hg2⟩
  have hl2 := hc2.lt
  go_wp2_with fail
  refine (amongL_any w2.heap.size 7 [0, 80, 160, 640, 8 * r1, r2, 1280] (by simp) (by simp) b n cp (k + 2 + 2) a (by omega) (hc2.made _) (ls_alloc [0, 80, 160, 640, 8 * r1, r2, 1280] _) (by omega)).mono ?_
  rintro e w3 ⟨r3, rfl, p3, hc3, hg3⟩
  have hl3 := hc3.lt
  go_wp2_with fail
  refine (pick_any 85 (by omega) b n cp (k + 2 + 2 + 2) a (by omega) hc3).mono ?_
  rintro e w4 ⟨r4, rfl, p40, p41, hc4, hg4⟩
  have hl4 := hc4.lt
  have v4 : IntKind.i64.wrap (8 * r4) = 8 * r4 := IntWalk.i64_in _ (by omega)
  go_wp2_with fail
  refine (pick_any 673 (by omega) b n cp (k + 2 + 2 + 2 + 2) a (by omega) hc4).mono ?_
  rintro e w5 ⟨r5, rfl, p50, p51, hc5, hg5⟩
  have hl5 := hc5.lt
  go_wp2_with fail
  refine (amongL_any w5.heap.size 6 [0, 80, 336, 8 * r4, r5, 672] (by simp) (by simp) b n cp (k + 2 + 2 + 2 + 2 + 2) a (by omega) (hc5.made _) (ls_alloc [0, 80, 336, 8 * r4, r5, 672] _) (by omega)).mono ?_
  rintro e w6 ⟨r6, rfl, p6, hc6, hg6⟩
  have hl6 := hc6.lt
  have G : (w.alloc (.cells #[.int .i64 0, .int .i64 0] 28)).grownBy w6 (some b) := gb_trans (gb_trans (gb_trans (gb_trans (gb_trans hg1 hg2) (gb_trans (gb_made (gb_refl _ _) _) hg3)) hg4) hg5) (gb_trans (gb_made (gb_refl _ _) _) hg6)
  have x0 := gb_cell (g := w.heap.size) (o := 0) G (by omega) (show _ = some (.int .i64 0) by go_simp)
  have x1 := gb_cell (g := w.heap.size) (o := 1) G (by omega) (show _ = some (.int .i64 0) by go_simp)
  have y0 := gb_froz (g := w.heap.size) (o := 0) G (by simp) (by omega) (show _ = false by go_simp)
  have y1 := gb_froz (g := w.heap.size) (o := 1) G (by simp) (by omega) (show _ = false by go_simp)
  have HG := Lib.hid G
  have HC6 := Lib.hid hc6
  clear hg1 hg2 hg3 hg4 hg5 hg6 hc1 hc2 hc3 hc4 hc5 hc6 G hc
  go_wp2
  have hs : w6.grownBy ((w6.setCell ⟨w.heap.size, 0, none⟩ (.int .i64 r3)).setCell ⟨w.heap.size, 1, none⟩ (.int .i64 r6)) (some w.heap.size) := gb_trans (gb_set _ _ _ _) (gb_set _ _ _ _)
  have hq : ∀ q, some w.heap.size = some q → w.heap.size ≤ q := fun q e => by have := Option.some.inj e; omega
  have P1 := Lib.hid (HC0.out.awayB HC6.out hs hq)
  have P2 := Lib.hid (gb_ownB (gb_trans (gb_made (gb_refl _ _) _) HG.out) hs hq)
  exact bodyPost_ret (v := .agg #[.int .i64 r3, .int .i64 r6]) (by simp [results, Try.results105, go_sem, *]) rfl ⟨r3, r6, rfl, P1.out.more (by omega), P2.out⟩

end Go.Proofs.Ytjojjmmdgldcbaa
