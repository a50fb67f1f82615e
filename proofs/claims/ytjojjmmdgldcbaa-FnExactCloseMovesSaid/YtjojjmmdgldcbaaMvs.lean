/- Lists of moves: how they lie, sizes, copies, comparison, marks. No conditions but those written in each theorem. -/
import Derived.Test.YtjojjmmdgldcbaaMv
import Derived.Test.YtjojjmmdgldcbaaPairs
import Derived.Deep.RegionHeld3
import Derived.Deep.DrawnRows
import Derived.IntWalk
namespace Go.Proofs.Ytjojjmmdgldcbaa
open Go.RowKit


attribute [local go_sem ↓] Go.wp_at_zero Go.wp_at_succ

/-- The j-th number of the i-th move. -/
def mget (m : (Int × Int × Int × Int × Int)) : Nat → Int
  | 0 => m.1
  | 1 => m.2.1
  | 2 => m.2.2.1
  | 3 => m.2.2.2.1
  | _ => m.2.2.2.2
def mc (l : List (Int × Int × Int × Int × Int)) (i j : Nat) : Int := mget (l.getD i (0, 0, 0, 0, 0)) j
/-- A slice's elements lie there: the moves l, five cells each. -/
def MovesAt (w : World) (a : Option Addr) (l : List (Int × Int × Int × Int × Int)) : Prop :=
  ∀ i, i < l.length → ∃ b off, a = some ⟨b, off, none⟩ ∧ w.cell? ⟨b, off + i * 5, none⟩ = some (.int .i64 (mc l i 0)) ∧ w.cell? ⟨b, off + i * 5 + 1, none⟩ = some (.int .i64 (mc l i 1)) ∧ w.cell? ⟨b, off + i * 5 + 2, none⟩ = some (.int .i64 (mc l i 2)) ∧ w.cell? ⟨b, off + i * 5 + 3, none⟩ = some (.int .i64 (mc l i 3)) ∧ w.cell? ⟨b, off + i * 5 + 4, none⟩ = some (.int .i64 (mc l i 4))
theorem MovesAt.below {w w' : World} {a : Option Addr} {l : List (Int × Int × Int × Int × Int)} (h : MovesAt w a l) (hb : Below w.heap.size w w') : MovesAt w' a l := by
  intro i hi
  obtain ⟨b, off, ha, h0, h1, h2, h3, h4⟩ := h i hi
  exact ⟨b, off, ha, (hb.cell (World.block_lt_of_cell? w _ h0)).trans h0, (hb.cell (World.block_lt_of_cell? w _ h1)).trans h1, (hb.cell (World.block_lt_of_cell? w _ h2)).trans h2, (hb.cell (World.block_lt_of_cell? w _ h3)).trans h3, (hb.cell (World.block_lt_of_cell? w _ h4)).trans h4⟩
theorem MovesAt.nil (w : World) (a : Option Addr) : MovesAt w a [] := fun i h => absurd h (Nat.not_lt_zero i)
/-- Fresh cells for n moves. -/
def zrowM (n : Nat) : Array Value := madeCells #[.int .i64 0, .int .i64 0, .int .i64 0, .int .i64 0, .int .i64 0] (n * 5)
theorem zrowM_get (n c : Nat) (hc : c < n * 5) : (zrowM n)[c]? = some (.int .i64 0) := by
  unfold zrowM madeCells
  simp [hc]
  rcases (show c % 5 = 0 ∨ c % 5 = 1 ∨ c % 5 = 2 ∨ c % 5 = 3 ∨ c % 5 = 4 by omega) with h | h | h | h | h <;> simp [h]
/-- What the copy of l holds after k rounds. -/
def rowM (l : List (Int × Int × Int × Int × Int)) (k c : Nat) : Value := if c < k * 5 then .int .i64 (mc l (c / 5) (c % 5)) else .int .i64 0
theorem rowM_step (l : List (Int × Int × Int × Int × Int)) (k c : Nat) : rowM l (k + 1) c = if c = k * 5 + 4 then .int .i64 (mc l k 4) else if c = k * 5 + 3 then .int .i64 (mc l k 3) else if c = k * 5 + 2 then .int .i64 (mc l k 2) else if c = k * 5 + 1 then .int .i64 (mc l k 1) else if c = k * 5 then .int .i64 (mc l k 0) else rowM l k c := by
  unfold rowM
  by_cases h4 : c = k * 5 + 4
  · rw [if_pos h4, if_pos (by omega), show c / 5 = k by omega, show c % 5 = 4 by omega]
  · rw [if_neg h4]
    by_cases h3 : c = k * 5 + 3
    · rw [if_pos h3, if_pos (by omega), show c / 5 = k by omega, show c % 5 = 3 by omega]
    · rw [if_neg h3]
      by_cases h2 : c = k * 5 + 2
      · rw [if_pos h2, if_pos (by omega), show c / 5 = k by omega, show c % 5 = 2 by omega]
      · rw [if_neg h2]
        by_cases h1 : c = k * 5 + 1
        · rw [if_pos h1, if_pos (by omega), show c / 5 = k by omega, show c % 5 = 1 by omega]
        · rw [if_neg h1]
          by_cases h0 : c = k * 5
          · rw [if_pos h0, if_pos (by omega), show c / 5 = k by omega, show c % 5 = 0 by omega]
          · rw [if_neg h0]
            by_cases h : c < k * 5
            · rw [if_pos (by omega), if_pos h]
            · rw [if_neg (by omega), if_neg h]
theorem rowM_start (ty : TypeId) (w : World) (l : List (Int × Int × Int × Int × Int)) : (w.alloc (.cells (zrowM l.length) ty)).rowIs w.heap.size ty (l.length * 5) (rowM l 0) :=
  ⟨zrowM l.length, (MapKept.heap_alloc w _).1, by simp [zrowM, size_madeCells], fun c hc => by rw [zrowM_get _ _ hc]; simp [rowM]⟩
theorem rowM_set {ty : TypeId} {w : World} {g n k : Nat} {l : List (Int × Int × Int × Int × Int)} (h : w.rowIs g ty n (rowM l k)) :
    (((((w.setCell ⟨g, k * 5, none⟩ (.int .i64 (mc l k 0))).setCell ⟨g, k * 5 + 1, none⟩ (.int .i64 (mc l k 1))).setCell ⟨g, k * 5 + 2, none⟩ (.int .i64 (mc l k 2))).setCell ⟨g, k * 5 + 3, none⟩ (.int .i64 (mc l k 3))).setCell ⟨g, k * 5 + 4, none⟩ (.int .i64 (mc l k 4))).rowIs g ty n (rowM l (k + 1)) :=
  (((((h.set (k * 5) _).set (k * 5 + 1) _).set (k * 5 + 2) _).set (k * 5 + 3) _).set (k * 5 + 4) _).congr fun i _ => (rowM_step l k i).symm
theorem row_moves {ty : TypeId} {w : World} {g : Nat} {l : List (Int × Int × Int × Int × Int)} (h : w.rowIs g ty (l.length * 5) (rowM l l.length)) : MovesAt w (some ⟨g, 0, none⟩) l := by
  intro i hi
  refine ⟨g, 0, rfl, ?_, ?_, ?_, ?_, ?_⟩
  · rw [h.cell (i := 0 + i * 5) (by omega)]
    unfold rowM
    rw [if_pos (by omega), show (0 + i * 5) / 5 = i by omega, show (0 + i * 5) % 5 = 0 by omega]
  · rw [h.cell (i := 0 + i * 5 + 1) (by omega)]
    unfold rowM
    rw [if_pos (by omega), show (0 + i * 5 + 1) / 5 = i by omega, show (0 + i * 5 + 1) % 5 = 1 by omega]
  · rw [h.cell (i := 0 + i * 5 + 2) (by omega)]
    unfold rowM
    rw [if_pos (by omega), show (0 + i * 5 + 2) / 5 = i by omega, show (0 + i * 5 + 2) % 5 = 2 by omega]
  · rw [h.cell (i := 0 + i * 5 + 3) (by omega)]
    unfold rowM
    rw [if_pos (by omega), show (0 + i * 5 + 3) / 5 = i by omega, show (0 + i * 5 + 3) % 5 = 3 by omega]
  · rw [h.cell (i := 0 + i * 5 + 4) (by omega)]
    unfold rowM
    rw [if_pos (by omega), show (0 + i * 5 + 4) / 5 = i by omega, show (0 + i * 5 + 4) % 5 = 4 by omega]

theorem Try.infoMove : (Try.prog.info? 30).map (fun i => (i.zero, i.size, i.bytes)) = some (some (.agg #[.int .i64 0, .int .i64 0, .int .i64 0, .int .i64 0, .int .i64 0]), 5, 40) := by kernel_rfl
theorem make_MoveS (n : Nat) (hn : n ≤ 1048576) (W : World) :
    (Instr.makeSlice 46 (.int .i64 (n : Int)) (.int .i64 (n : Int))).run Try.prog W = .ok (.slice (some ⟨W.heap.size, 0, none⟩) n n) (W.alloc (.cells (zrowM n) 30)) := by
  obtain ⟨i0, hi, hz0, hz1, hz2⟩ := info_parts Try.infoMove
  have hr := run_make (P := Try.prog) W 46 30 i0 (.agg #[.int .i64 0, .int .i64 0, .int .i64 0, .int .i64 0, .int .i64 0]) Try.underlying46 hi hz0 .i64 .i64 n n (by omega) (by omega) (by rw [hz2]; omega) (by omega)
  simp only [Int.toNat_natCast] at hr
  rw [hz1] at hr
  exact hr

set_option maxHeartbeats 400000 in
theorem szMoveS_fits (a : Option Addr) (cap n : Nat) (hn : n ≤ 1048576) (w : World) :
    Calls Try.prog 30 #[.slice a n cap, .int .i64 1048576] w fun e w' => e = .returned (.int .i64 (1048576 - n)) ∧ w = w' := by
  skip
  all_goals
    go_enter Try.func30, Try.ntmps30
    go_wp2
    go_ret
    exact ⟨rfl, rfl⟩

set_option maxHeartbeats 400000 in
theorem szMoveS_over (a : Option Addr) (cap n : Nat) (hn : 1048576 < n) (hm : n ≤ 9223372036854775807) (w : World) :
    Calls Try.prog 30 #[.slice a n cap, .int .i64 1048576] w fun e w' => e = .returned (.int .i64 (-1)) ∧ w = w' := by
  skip
  all_goals
    go_enter Try.func30, Try.ntmps30
    go_wp2
    go_ret
    exact ⟨rfl, rfl⟩

set_option maxHeartbeats 2000000 in
theorem toMoveS_any (a : Option Addr) (cap : Nat) (l : List (Int × Int × Int × Int × Int)) (hl : l.length ≤ 1048576) {w : World} (ha : MovesAt w a l) :
    Calls Try.prog 32 #[.slice a l.length cap] w fun e w' => e = .returned (.slice (some ⟨w.heap.size, 0, none⟩) l.length l.length) ∧ w'.rowIs w.heap.size 30 (l.length * 5) (rowM l l.length) ∧ Below w.heap.size w w' := by
  have hmk := make_MoveS l.length hl
  go_enter Try.func32, Try.ntmps32
  go_wp2
  go_loopw [4] (fun i wr => ∃ k : Nat, k ≤ l.length ∧ i = .int .i64 k ∧ wr.rowIs w.heap.size 30 (l.length * 5) (rowM l k) ∧ Below w.heap.size w wr) (fun i _ => l.length - (intOf i).toNat)
  case atStart => exact ⟨0, Nat.zero_le _, rfl, rowM_start _ w l, (by repeat (first | exact Below.refl _ _ | assumption | refine Below.drew ?_ | refine below_drewN ?_ _ | refine Below.alloc ?_ (by first | omega | (simp; done) | (simp; omega)) _ | refine Below.setCell ?_ (by first | omega | (simp; done) | (simp; omega)) _ | refine Below.trans ?_ (Below.mono (by assumption) (by first | omega | (simp; done) | (simp; omega)))))⟩
  case round =>
    obtain ⟨k, hk, rfl, hrow, hbr⟩ := hrel
    have hsr := hbr.size
    have hgl := hrow.lt
    clear hmk
    by_cases hlt : k < l.length
    · obtain ⟨b, off, rfl, c0, c1, c2, c3, c4⟩ := (ha.below hbr) k hlt
      go_wp2_with (go_at_call 15; (refine (toMove_any _ _ _ _ _ _).mono ?_; rintro e w1 ⟨rfl, hb1⟩; have hs1 := hb1.size; have hrow1 := hrow.of_block (hb1.block _ hrow.lt); have r0 := hrow1.cell (i := k * 5) (by omega); have r1 := hrow1.cell (i := k * 5 + 1) (by omega); have r2 := hrow1.cell (i := k * 5 + 2) (by omega); have r3 := hrow1.cell (i := k * 5 + 3) (by omega); have r4 := hrow1.cell (i := k * 5 + 4) (by omega); have f0 := hrow1.frozen (k * 5); have f1 := hrow1.frozen (k * 5 + 1); have f2 := hrow1.frozen (k * 5 + 2); have f3 := hrow1.frozen (k * 5 + 3); have f4 := hrow1.frozen (k * 5 + 4)))
      go_roundw
      case rel => exact ⟨k + 1, by omega, by go_num, rowM_set hrow1, (by repeat (first | exact Below.refl _ _ | assumption | refine Below.drew ?_ | refine below_drewN ?_ _ | refine Below.alloc ?_ (by first | omega | (simp; done) | (simp; omega)) _ | refine Below.setCell ?_ (by first | omega | (simp; done) | (simp; omega)) _ | refine Below.trans ?_ (Below.mono (by assumption) (by first | omega | (simp; done) | (simp; omega)))))⟩
      case measure => simp [intOf]; omega
    · obtain rfl : k = l.length := by omega
      go_wp2
      go_ret
      exact ⟨rfl, hrow, (by repeat (first | exact Below.refl _ _ | assumption | refine Below.drew ?_ | refine below_drewN ?_ _ | refine Below.alloc ?_ (by first | omega | (simp; done) | (simp; omega)) _ | refine Below.setCell ?_ (by first | omega | (simp; done) | (simp; omega)) _ | refine Below.trans ?_ (Below.mono (by assumption) (by first | omega | (simp; done) | (simp; omega)))))⟩

set_option maxHeartbeats 4000000 in
theorem eqMoveS_same (a a' : Option Addr) (cap cap' : Nat) (l : List (Int × Int × Int × Int × Int)) (hl : l.length ≤ 1048576) {w : World} (ha : MovesAt w a l) (ha' : MovesAt w a' l) :
    Calls Try.prog 34 #[.slice a l.length cap, .slice a' l.length cap'] w fun e w' => e = .returned (.bool true) ∧ Below w.heap.size w w' := by
  go_enter Try.func34, Try.ntmps34
  go_wp2
  go_loopw [5] (fun i wr => ∃ k : Nat, k ≤ l.length ∧ i = .int .i64 k ∧ Below w.heap.size w wr) (fun i _ => l.length - (intOf i).toNat)
  case atStart => exact ⟨0, Nat.zero_le _, rfl, Below.refl _ _⟩
  case round =>
    obtain ⟨k, hk, rfl, hbr⟩ := hrel
    have hsr := hbr.size
    by_cases hlt : k < l.length
    · obtain ⟨b, off, rfl, c0, c1, c2, c3, c4⟩ := (ha.below hbr) k hlt
      obtain ⟨b', off', rfl, d0, d1, d2, d3, d4⟩ := (ha'.below hbr) k hlt
      have i0 : (0 : Int) ≤ (k : Int) := by omega
      have i1 : (k : Int) < (l.length : Int) := by omega
      go_wp2
      go_region_held3 (fun w' => w'.cell? ⟨b, off + k * 5, none⟩ = some (.int .i64 (mc l k 0)) ∧ w'.cell? ⟨b, off + k * 5 + 1, none⟩ = some (.int .i64 (mc l k 1)) ∧ w'.cell? ⟨b, off + k * 5 + 2, none⟩ = some (.int .i64 (mc l k 2)) ∧ w'.cell? ⟨b, off + k * 5 + 3, none⟩ = some (.int .i64 (mc l k 3)) ∧ w'.cell? ⟨b, off + k * 5 + 4, none⟩ = some (.int .i64 (mc l k 4)) ∧ w'.cell? ⟨b', off' + k * 5, none⟩ = some (.int .i64 (mc l k 0)) ∧ w'.cell? ⟨b', off' + k * 5 + 1, none⟩ = some (.int .i64 (mc l k 1)) ∧ w'.cell? ⟨b', off' + k * 5 + 2, none⟩ = some (.int .i64 (mc l k 2)) ∧ w'.cell? ⟨b', off' + k * 5 + 3, none⟩ = some (.int .i64 (mc l k 3)) ∧ w'.cell? ⟨b', off' + k * 5 + 4, none⟩ = some (.int .i64 (mc l k 4))) (go_keep)
        (first | (go_at_call 81; (refine (eqMove_same _ _ _ _ _ _).mono ?_; rintro e w1 ⟨rfl, hb1⟩; have hs1 := hb1.size; have e0 := (hb1.cell (World.block_lt_of_cell? _ _ c0)).trans c0; have g0 := (hb1.cell (World.block_lt_of_cell? _ _ d0)).trans d0; have e1 := (hb1.cell (World.block_lt_of_cell? _ _ c1)).trans c1; have g1 := (hb1.cell (World.block_lt_of_cell? _ _ d1)).trans d1; have e2 := (hb1.cell (World.block_lt_of_cell? _ _ c2)).trans c2; have g2 := (hb1.cell (World.block_lt_of_cell? _ _ d2)).trans d2; have e3 := (hb1.cell (World.block_lt_of_cell? _ _ c3)).trans c3; have g3 := (hb1.cell (World.block_lt_of_cell? _ _ d3)).trans d3; have e4 := (hb1.cell (World.block_lt_of_cell? _ _ c4)).trans c4; have g4 := (hb1.cell (World.block_lt_of_cell? _ _ d4)).trans d4)))
      go_wp2
      go_roundw
      case rel => exact ⟨k + 1, by omega, by go_num, (by repeat (first | exact Below.refl _ _ | assumption | refine Below.drew ?_ | refine below_drewN ?_ _ | refine Below.alloc ?_ (by first | omega | (simp; done) | (simp; omega)) _ | refine Below.setCell ?_ (by first | omega | (simp; done) | (simp; omega)) _ | refine Below.trans ?_ (Below.mono (by assumption) (by first | omega | (simp; done) | (simp; omega)))))⟩
      case measure => simp [intOf]; omega
    · go_wp2
      go_ret
      exact ⟨rfl, (by repeat (first | exact Below.refl _ _ | assumption | refine Below.drew ?_ | refine below_drewN ?_ _ | refine Below.alloc ?_ (by first | omega | (simp; done) | (simp; omega)) _ | refine Below.setCell ?_ (by first | omega | (simp; done) | (simp; omega)) _ | refine Below.trans ?_ (Below.mono (by assumption) (by first | omega | (simp; done) | (simp; omega)))))⟩

set_option maxHeartbeats 2000000 in
theorem markMoveS_row (g n cap : Nat) (h : Nat → Value) (hl : n ≤ 1048576) {w : World} (ho : w.rowIs g 30 (n * 5) h) :
    Calls Try.prog 46 #[.slice (some ⟨g, 0, none⟩) n cap, .int .i64 1] w fun e w' => e = .returned (.int .i64 (1 + 5 * n)) ∧ w.grownBy w' (some g) := by
  go_enter Try.func46, Try.ntmps46
  go_wp2
  go_loopw [1, 5] (fun m i wr => ∃ (k : Nat) (h' : Nat → Value), k ≤ n ∧ i = .int .i64 k ∧ m = .int .i64 (1 + 5 * k) ∧ wr.rowIs g 30 (n * 5) h' ∧ w.grownBy wr (some g)) (fun _ i _ => n - (intOf i).toNat)
  case atStart => exact ⟨0, h, Nat.zero_le _, rfl, rfl, ho, gb_refl _ _⟩
  case round =>
    obtain ⟨k, h', hk, rfl, rfl, hrow, hg⟩ := hrel
    by_cases hlt : k < n
    · have r2 := (((((hrow.set (k * 5) (.int .i64 (1 + 5 * (k : Int)))).set (k * 5 + 1) (.int .i64 (1 + 5 * (k : Int) + 1))).set (k * 5 + 2) (.int .i64 (1 + 5 * (k : Int) + 2))).set (k * 5 + 3) (.int .i64 (1 + 5 * (k : Int) + 3))).set (k * 5 + 4) (.int .i64 (1 + 5 * (k : Int) + 4)))
      have R2 := Lib.hid r2
      clear r2
      obtain ⟨u0, e0⟩ : ∃ u, u = h' (k * 5) := ⟨_, rfl⟩
      have c0 := hrow.cell (i := k * 5) (by omega)
      rw [← e0] at c0
      have f0 := hrow.frozen (k * 5)
      clear e0
      obtain ⟨u1, e1⟩ : ∃ u, u = h' (k * 5 + 1) := ⟨_, rfl⟩
      have c1 := hrow.cell (i := k * 5 + 1) (by omega)
      rw [← e1] at c1
      have f1 := hrow.frozen (k * 5 + 1)
      clear e1
      obtain ⟨u2, e2⟩ : ∃ u, u = h' (k * 5 + 2) := ⟨_, rfl⟩
      have c2 := hrow.cell (i := k * 5 + 2) (by omega)
      rw [← e2] at c2
      have f2 := hrow.frozen (k * 5 + 2)
      clear e2
      obtain ⟨u3, e3⟩ : ∃ u, u = h' (k * 5 + 3) := ⟨_, rfl⟩
      have c3 := hrow.cell (i := k * 5 + 3) (by omega)
      rw [← e3] at c3
      have f3 := hrow.frozen (k * 5 + 3)
      clear e3
      obtain ⟨u4, e4⟩ : ∃ u, u = h' (k * 5 + 4) := ⟨_, rfl⟩
      have c4 := hrow.cell (i := k * 5 + 4) (by omega)
      rw [← e4] at c4
      have f4 := hrow.frozen (k * 5 + 4)
      clear e4
      have i0 : (0 : Int) ≤ (k : Int) := by omega
      have i1 : (k : Int) < (n : Int) := by omega
      have v1 : IntKind.i64.wrap (1 + 5 * (k : Int) + 1 + 1) = 1 + 5 * (k : Int) + 2 := by rw [IntWalk.i64_in _ (by omega)]; omega
      have v2 : IntKind.i64.wrap (1 + 5 * (k : Int) + 2 + 1) = 1 + 5 * (k : Int) + 3 := by rw [IntWalk.i64_in _ (by omega)]; omega
      have v3 : IntKind.i64.wrap (1 + 5 * (k : Int) + 3 + 1) = 1 + 5 * (k : Int) + 4 := by rw [IntWalk.i64_in _ (by omega)]; omega
      have v4 : IntKind.i64.wrap (1 + 5 * (k : Int) + 4 + 1) = 1 + 5 * (k : Int) + 5 := by rw [IntWalk.i64_in _ (by omega)]; omega
      have v0 : IntKind.i64.wrap (1 + 5 * (k : Int) + 1) = 1 + 5 * (k : Int) + 1 := IntWalk.i64_in _ (by omega)
      go_wp2
      go_roundw
      case rel => exact ⟨k + 1, _, by omega, by go_num, by go_num, R2.out, (gb_trans (gb_trans (gb_trans (gb_trans (gb_trans hg (gb_set _ _ _ _)) (gb_set _ _ _ _)) (gb_set _ _ _ _)) (gb_set _ _ _ _)) (gb_set _ _ _ _))⟩
      case measure => simp [intOf]; omega
    · obtain rfl : k = n := by omega
      go_wp2
      go_ret
      exact ⟨rfl, hg⟩

end Go.Proofs.Ytjojjmmdgldcbaa
