/- The cursor of the draws: its steps write its own block alone, and answer within their bounds. No conditions but those written in each theorem. -/
import Derived.Test.YtjojjmmdgldcbaaBase
import Derived.Deep.RegionHeld3
import Derived.Deep.DrawnRows
import Derived.IntWalk
import Derived.Deep.QuietTactic
import Derived.Laws.AppendOwn
namespace Go.Proofs.Ytjojjmmdgldcbaa
open Go.RowKit


attribute [local go_sem ↓] Go.wp_at_zero Go.wp_at_succ

/-- The cursor's block b: what it draws from, how far it is (at most k steps), its seed. -/
structure Cu (w : World) (b : Nat) (a : Option Addr) (n cp k : Nat) : Prop where
  c0 : w.cell? ⟨b, 0, none⟩ = some (.slice a n cp)
  cs : ∃ (p : Nat) (s : Int), p ≤ k ∧ 0 ≤ s ∧ s < 18446744073709551616 ∧ w.cell? ⟨b, 1, none⟩ = some (.int .i64 p) ∧ w.cell? ⟨b, 2, none⟩ = some (.int .u64 s)
  f1 : w.frozen? ⟨b, 1, none⟩ = false
  f2 : w.frozen? ⟨b, 2, none⟩ = false
  by_ : ∀ i, i < n → ∃ bl off x, a = some ⟨bl, off, none⟩ ∧ bl ≠ b ∧ 0 ≤ x ∧ x ≤ 255 ∧ w.cell? ⟨bl, off + i, none⟩ = some (.int .u8 x)
theorem Cu.lt {w : World} {b n cp k : Nat} {a : Option Addr} (h : Cu w b a n cp k) : b < w.heap.size := World.block_lt_of_cell? w _ h.c0
theorem Cu.more {w : World} {b n cp k k' : Nat} {a : Option Addr} (h : Cu w b a n cp k) (hk : k ≤ k') : Cu w b a n cp k' := by
  obtain ⟨p, s, h1, h2⟩ := h.cs
  exact ⟨h.c0, ⟨p, s, Nat.le_trans h1 hk, h2⟩, h.f1, h.f2, h.by_⟩
theorem Cu.go {w w' : World} {b n cp k : Nat} {a : Option Addr} (h : Cu w b a n cp k) (hb : Below w.heap.size w w') : Cu w' b a n cp k := by
  obtain ⟨p, s, h1, h2, h3, h4, h5⟩ := h.cs
  have hl := h.lt
  refine ⟨(hb.cell (p := ⟨b, 0, none⟩) hl).trans h.c0, ⟨p, s, h1, h2, h3, (hb.cell (p := ⟨b, 1, none⟩) hl).trans h4, (hb.cell (p := ⟨b, 2, none⟩) hl).trans h5⟩, (hb.frozen (p := ⟨b, 1, none⟩) hl).trans h.f1, (hb.frozen (p := ⟨b, 2, none⟩) hl).trans h.f2, ?_⟩
  intro i hi
  obtain ⟨bl, off, x, e, hne, hx, hx2, hc⟩ := h.by_ i hi
  exact ⟨bl, off, x, e, hne, hx, hx2, (hb.cell (World.block_lt_of_cell? w _ hc)).trans hc⟩
/-- The same behind a write elsewhere. -/
theorem Cu.far {w w' : World} {b n cp k : Nat} {a : Option Addr} {r : Option Nat} (h : Cu w b a n cp k) (hg : w.grownBy w' r) (hr : some b ≠ r) (ha : ∀ x, a = some x → some x.block ≠ r) : Cu w' b a n cp k := by
  obtain ⟨p, s, h1, h2, h3, h4, h5⟩ := h.cs
  have hl := h.lt
  have hf : ∀ o, w'.frozen? ⟨b, o, none⟩ = w.frozen? ⟨b, o, none⟩ := fun o => World.frozen?_of_block (hg.block b hl hr)
  refine ⟨hg.cell h.c0 hr, ⟨p, s, h1, h2, h3, hg.cell h4 hr, hg.cell h5 hr⟩, (hf 1).trans h.f1, (hf 2).trans h.f2, ?_⟩
  intro i hi
  obtain ⟨bl, off, x, e, hne, hx, hx2, hc⟩ := h.by_ i hi
  exact ⟨bl, off, x, e, hne, hx, hx2, hg.cell hc (by have h9 := ha _ e; exact h9)⟩
theorem gb_drewN (w : World) (q : Nat) (r : Option Nat) : w.grownBy (w.drewN q) r := ⟨rfl, rfl, rfl, Nat.le_refl _, fun _ _ _ => rfl⟩
theorem gb_of_below {w w' : World} {r : Option Nat} (h : Below w.heap.size w w') : w.grownBy w' r := ⟨h.os, h.tape, h.output, h.size, fun k hk _ => h.block k hk⟩
theorem and_255 (y : Int) : 0 ≤ bits .and .u64 y 255 ∧ bits .and .u64 y 255 ≤ 255 := by
  unfold bits
  simp
  have e : (255 : Nat) % 2 ^ IntKind.u64.bits = 255 := by decide
  rw [e]
  have h := Nat.and_le_right (n := (y % 2 ^ IntKind.u64.bits).toNat) (m := 255)
  obtain ⟨z, hz⟩ : ∃ z, z = (y % 2 ^ IntKind.u64.bits).toNat &&& 255 := ⟨_, rfl⟩
  rw [← hz] at h ⊢
  have e2 : IntKind.u64.wrap (z : Int) = z := by unfold IntKind.wrap; simp [IntKind.signed, IntKind.bits]; omega
  rw [e2]
  omega
theorem u64_wrap (y : Int) : 0 ≤ IntKind.u64.wrap y ∧ IntKind.u64.wrap y < 18446744073709551616 := by
  unfold IntKind.wrap
  simp [IntKind.signed, IntKind.bits]
  omega
theorem Cu.step {w : World} {b n cp k p : Nat} {a : Option Addr} {s s' : Int} (h : Cu w b a n cp k) (hp : p ≤ k) (c1 : w.cell? ⟨b, 1, none⟩ = some (.int .i64 p)) (c2 : w.cell? ⟨b, 2, none⟩ = some (.int .u64 s)) (h1 : 0 ≤ s') (h2 : s' < 18446744073709551616) (q1 q2 : Nat) :
    Cu ((((w.drewN q1).setCell ⟨b, 1, none⟩ (.int .i64 ((p : Int) + 1))).setCell ⟨b, 2, none⟩ (.int .u64 s')).drewN q2) b a n cp (k + 1) ∧ w.grownBy ((((w.drewN q1).setCell ⟨b, 1, none⟩ (.int .i64 ((p : Int) + 1))).setCell ⟨b, 2, none⟩ (.int .u64 s')).drewN q2) (some b) := by
  have hg : w.grownBy ((((w.drewN q1).setCell ⟨b, 1, none⟩ (.int .i64 ((p : Int) + 1))).setCell ⟨b, 2, none⟩ (.int .u64 s')).drewN q2) (some b) :=
    gb_trans (gb_trans (gb_trans (gb_drewN w q1 _) (gb_set _ _ _ _)) (gb_set _ _ _ _)) (gb_drewN _ q2 _)
  refine ⟨⟨?_, ⟨p + 1, s', by omega, h1, h2, ?_, ?_⟩, ?_, ?_, ?_⟩, hg⟩
  · show (((w.drewN q1).setCell _ _).setCell _ _).cell? _ = _
    rw [World.cell?_setCell_other _ _ _ _ (by simp), World.cell?_setCell_other _ _ _ _ (by simp)]
    exact h.c0
  · show (((w.drewN q1).setCell _ _).setCell _ _).cell? _ = _
    rw [World.cell?_setCell_other _ _ _ _ (by simp), World.cell?_setCell_same (w.drewN q1) _ _ c1]
    rfl
  · show (((w.drewN q1).setCell _ _).setCell _ _).cell? _ = _
    exact World.cell?_setCell_same ((w.drewN q1).setCell ⟨b, 1, none⟩ (.int .i64 ((p : Int) + 1))) _ _ ((World.cell?_setCell_other _ _ _ _ (by simp)).trans c2)
  · show (((w.drewN q1).setCell _ _).setCell _ _).frozen? _ = _
    rw [World.frozen?_setCell, World.frozen?_setCell]; exact h.f1
  · show (((w.drewN q1).setCell _ _).setCell _ _).frozen? _ = _
    rw [World.frozen?_setCell, World.frozen?_setCell]; exact h.f2
  · intro i hi
    obtain ⟨bl, off, x, e, hne, hx, hx2, hc⟩ := h.by_ i hi
    exact ⟨bl, off, x, e, hne, hx, hx2, hg.cell hc (fun e2 => hne (Option.some.inj e2))⟩

set_option maxHeartbeats 2000000 in
theorem next_any (b n cp k : Nat) (a : Option Addr) (hk : k ≤ 1000000000) {w : World} (hc : Cu w b a n cp k) :
    Calls Try.prog 102 #[.pointer (some ⟨b, 0, none⟩)] w fun e w' => ∃ r : Int, e = .returned (.int .i64 r) ∧ 0 ≤ r ∧ r ≤ 255 ∧ Cu w' b a n cp (k + 1) ∧ w.grownBy w' (some b) := by
  obtain ⟨p, s, h1, h2, h3, c1, c2⟩ := hc.cs
  have c0 := hc.c0
  have f1 := hc.f1
  have f2 := hc.f2
  have HC := Lib.hid hc
  have v1 : IntKind.i64.wrap ((p : Int) + 1) = (p : Int) + 1 := IntWalk.i64_in _ (by omega)
  have p0 : (0 : Int) ≤ (p : Int) := by omega
  by_cases hlt : p < n
  · obtain ⟨bl, off, x, rfl, hne, hx, hx2, cx⟩ := hc.by_ p hlt
    have hltI : (p : Int) < (n : Int) := by omega
    have hle : (p : Int) + 1 ≤ (n : Int) := by omega
    have hd1 : decide ((p : Int) + 1 ≤ (n : Int)) = true := decide_eq_true hle
    have hd2 : decide ((p : Int) < (n : Int)) = true := decide_eq_true hltI
    have hd3 : ¬ (n : Int) < (p : Int) + 1 := by omega
    have hd4 : ¬ (n : Int) ≤ (p : Int) := by omega
    clear hc
    go_enter Try.func102, Try.ntmps102
    go_wp2
    go_quiet (fail)
    go_wp2
    go_quiet (fail)
    go_wp2
    go_quiet (fail)
    go_wp2
    go_ret
    refine ⟨x, rfl, hx, hx2, ?_⟩
    exact HC.out.step h1 c1 c2 (u64_wrap _).1 (u64_wrap _).2 _ _
  · have hltI : ¬ (p : Int) < (n : Int) := by omega
    have hle : ¬ (p : Int) + 1 ≤ (n : Int) := by omega
    clear hc
    go_enter Try.func102, Try.ntmps102
    go_wp2
    go_quiet (fail)
    go_wp2
    go_quiet (fail)
    go_wp2
    have hy := and_255 (IntKind.u64.wrap (IntKind.u64.wrap (IntKind.u64.wrap (s * 6364136223846793005)) + 1442695040888963407) / 1099511627776)
    obtain ⟨r, hr⟩ : ∃ r, bits .and .u64 (IntKind.u64.wrap (IntKind.u64.wrap (IntKind.u64.wrap (s * 6364136223846793005)) + 1442695040888963407) / 1099511627776) 255 = r := ⟨_, rfl⟩
    rw [hr] at hy ⊢
    go_ret
    refine ⟨r, by simp; unfold wrap64; omega, hy.1, hy.2, ?_⟩
    exact HC.out.step h1 c1 c2 (u64_wrap _).1 (u64_wrap _).2 _ _

set_option maxHeartbeats 2000000 in
theorem pick_any (m : Int) (hm : m ≤ 1000000) (b n cp k : Nat) (a : Option Addr) (hk : k ≤ 900000000) {w : World} (hc : Cu w b a n cp k) :
    Calls Try.prog 86 #[.pointer (some ⟨b, 0, none⟩), .int .i64 m] w fun e w' => ∃ r : Int, e = .returned (.int .i64 r) ∧ 0 ≤ r ∧ (r < m ∨ r = 0) ∧ Cu w' b a n cp (k + 2) ∧ w.grownBy w' (some b) := by
  have HCX := Lib.hid hc
  clear hc
  by_cases h1 : m ≤ 1
  · go_enter Try.func86, Try.ntmps86
    go_wp2
    go_ret
    exact ⟨0, rfl, by omega, .inr rfl, HCX.out.more (by omega), gb_refl _ _⟩
  · by_cases h2 : 200 < m
    all_goals
      have z1 : ¬ m = 0 := by omega
      have z2 : (m == 0) = false := beq_eq_false_iff_ne.2 z1
      go_enter Try.func86, Try.ntmps86
    · go_wp2_with fail
      refine (next_any b n cp k a (by omega) HCX.out).mono ?_
      rintro e w1 ⟨r1, rfl, h10, h11, hc1, hg1⟩
      have HC1 := Lib.hid hc1
      have HG1 := Lib.hid hg1
      clear hc1 hg1
      have v1 : IntKind.i64.wrap (r1 * 256) = r1 * 256 := IntWalk.i64_in _ (by omega)
      go_wp2_with fail
      refine (next_any b n cp (k + 1) a (by omega) HC1.out).mono ?_
      rintro e w2 ⟨r2, rfl, h20, h21, hc2, hg2⟩
      have HC2 := Lib.hid hc2
      have HG2 := Lib.hid hg2
      clear hc2 hg2
      have v2 : IntKind.i64.wrap (r1 * 256 + r2) = r1 * 256 + r2 := IntWalk.i64_in _ (by omega)
      have v3 : 0 ≤ r1 * 256 + r2 := by omega
      have v4 : (r1 * 256 + r2).tmod m = (r1 * 256 + r2) % m := Int.tmod_eq_emod_of_nonneg v3
      go_wp2
      go_ret
      exact ⟨(r1 * 256 + r2) % m, rfl, Int.emod_nonneg _ z1, .inl (Int.emod_lt_of_pos _ (by omega)), HC2.out, gb_trans HG1.out HG2.out⟩
    · go_wp2_with fail
      refine (next_any b n cp k a (by omega) HCX.out).mono ?_
      rintro e w1 ⟨r1, rfl, h10, h11, hc1, hg1⟩
      have HC1 := Lib.hid hc1
      have HG1 := Lib.hid hg1
      clear hc1 hg1
      have v4 : r1.tmod m = r1 % m := Int.tmod_eq_emod_of_nonneg h10
      go_wp2
      go_ret
      exact ⟨r1 % m, rfl, Int.emod_nonneg _ z1, .inl (Int.emod_lt_of_pos _ (by omega)), HC1.out.more (by omega), HG1.out⟩

set_option maxHeartbeats 2000000 in
theorem one_any (m : Int) (hm : m ≤ 1000000) (b n cp k : Nat) (a : Option Addr) (hk : k ≤ 900000000) {w : World} (hc : Cu w b a n cp k) :
    Calls Try.prog 100 #[.pointer (some ⟨b, 0, none⟩), .int .i64 m] w fun e w' => ∃ r : Bool, e = .returned (.bool r) ∧ Cu w' b a n cp (k + 2) ∧ w.grownBy w' (some b) := by
  have HCX := Lib.hid hc
  clear hc
  go_enter Try.func100, Try.ntmps100
  go_wp2_with fail
  refine (pick_any m hm b n cp k a hk HCX.out).mono ?_
  rintro e w1 ⟨r1, rfl, h10, h11, hc1, hg1⟩
  have HC1 := Lib.hid hc1
  have HG1 := Lib.hid hg1
  clear hc1 hg1 h11
  go_wp2
  go_ret
  exact ⟨_, rfl, HC1.out, HG1.out⟩

/-- The ints of a list lie there, each within bounds. -/
def AmAt (w : World) (g len : Nat) (lo hi : Int) : Prop := ∀ i, i < len → ∃ x : Int, lo ≤ x ∧ x ≤ hi ∧ w.cell? ⟨g, i, none⟩ = some (.int .i64 x)
set_option maxHeartbeats 2000000 in
theorem among_any (g len c1 : Nat) (lo hi : Int) (h0 : 1 ≤ len) (h1 : len ≤ 1000) (b n cp k : Nat) (a : Option Addr) (hk : k ≤ 900000000) {w : World} (hc : Cu w b a n cp k) (hl : AmAt w g len lo hi) (hne : g ≠ b) :
    Calls Try.prog 85 #[.pointer (some ⟨b, 0, none⟩), .slice (some ⟨g, 0, none⟩) len c1] w fun e w' => ∃ r : Int, e = .returned (.int .i64 r) ∧ lo ≤ r ∧ r ≤ hi ∧ Cu w' b a n cp (k + 2) ∧ w.grownBy w' (some b) := by
  have HCX := Lib.hid hc
  have HL := Lib.hid hl
  clear hc hl
  go_enter Try.func85, Try.ntmps85
  go_wp2_with fail
  refine (pick_any (len : Int) (by omega) b n cp k a hk HCX.out).mono ?_
  rintro e w1 ⟨r1, rfl, h10, h11, hc1, hg1⟩
  have hr : r1 < (len : Int) := by omega
  obtain ⟨i, rfl⟩ := Int.eq_ofNat_of_zero_le h10
  obtain ⟨x, hx1, hx2, hx⟩ := HL.out i (by omega)
  have hx3 : w1.cell? ⟨g, i, none⟩ = some (.int .i64 x) := hg1.cell hx (fun e => hne (Option.some.inj e))
  have HC1 := Lib.hid hc1
  have HG1 := Lib.hid hg1
  clear hc1 hg1 h11 hx
  go_wp2
  go_ret
  exact ⟨x, rfl, hx1, hx2, HC1.out, HG1.out⟩

end Go.Proofs.Ytjojjmmdgldcbaa
