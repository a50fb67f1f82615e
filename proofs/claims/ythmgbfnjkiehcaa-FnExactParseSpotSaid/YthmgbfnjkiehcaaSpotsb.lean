/- Lists of spots: size, copy and comparison. No conditions but those written in each theorem. -/
import Derived.Test.YthmgbfnjkiehcaaSpots
import Derived.Laws.MakeOwn
import Derived.Deep.OwnRows
import Derived.Deep.RegionHeld3
import Derived.Deep.DrawnRows
namespace Go.Proofs.Ythmgbfnjkiehcaa
open Go.RowKit


attribute [local go_sem ↓] Go.wp_at_zero Go.wp_at_succ

/-- Fresh cells for n spots. -/
def zrow (n : Nat) : Array Value := madeCells #[.int .i64 0, .int .i64 0] (n * 2)
theorem Try.infoSpot : (Try.prog.info? 25).map (fun i => (i.zero, i.size, i.bytes)) = some (some (.agg #[.int .i64 0, .int .i64 0]), 2, 16) := by kernel_rfl
theorem make_spots (n : Nat) (hn : n ≤ 1048576) (W : World) :
    (Instr.makeSlice 40 (.int .i64 (n : Int)) (.int .i64 (n : Int))).run Try.prog W = .ok (.slice (some ⟨W.heap.size, 0, none⟩) n n) (W.alloc (.cells (zrow n) 25)) := by
  obtain ⟨i0, hi, hz0, hz1, hz2⟩ := info_parts Try.infoSpot
  have hr := run_make (P := Try.prog) W 40 25 i0 (.agg #[.int .i64 0, .int .i64 0]) Try.underlying40 hi hz0 .i64 .i64 n n (by omega) (by omega) (by rw [hz2]; omega) (by omega)
  simp only [Int.toNat_natCast] at hr
  rw [hz1] at hr
  exact hr
theorem zrow_get (n c : Nat) (hc : c < n * 2) : (zrow n)[c]? = some (.int .i64 0) := by
  unfold zrow madeCells
  simp [hc]
  rcases (show c % 2 = 0 ∨ c % 2 = 1 by omega) with h | h <;> simp [h]
/-- What the copy of l holds after k rounds. -/
def rowF (l : List (Int × Int)) (k c : Nat) : Value := if c < k * 2 then (if c % 2 = 0 then .int .i64 (sx l (c / 2)) else .int .i64 (sy l (c / 2))) else .int .i64 0
theorem rowF_step (l : List (Int × Int)) (k c : Nat) : rowF l (k + 1) c = if c = k * 2 + 1 then .int .i64 (sy l k) else if c = k * 2 then .int .i64 (sx l k) else rowF l k c := by
  unfold rowF
  by_cases h1 : c = k * 2 + 1
  · subst h1
    rw [if_pos (by omega), if_neg (by omega), if_pos rfl, show (k * 2 + 1) / 2 = k by omega]
  · rw [if_neg h1]
    by_cases h2 : c = k * 2
    · subst h2
      rw [if_pos (by omega), if_pos (by omega), if_pos rfl, show (k * 2) / 2 = k by omega]
    · rw [if_neg h2]
      by_cases h3 : c < k * 2
      · rw [if_pos (by omega), if_pos h3]
      · rw [if_neg (by omega), if_neg h3]
theorem row_start (w : World) (l : List (Int × Int)) : (w.alloc (.cells (zrow l.length) 25)).rowIs w.heap.size 25 (l.length * 2) (rowF l 0) :=
  ⟨zrow l.length, (MapKept.heap_alloc w _).1, by simp [zrow, size_madeCells], fun c hc => by rw [zrow_get _ _ hc]; simp [rowF]⟩
theorem row_step {w : World} {g n k : Nat} {l : List (Int × Int)} (h : w.rowIs g 25 n (rowF l k)) :
    ((w.setCell ⟨g, k * 2, none⟩ (.int .i64 (sx l k))).setCell ⟨g, k * 2 + 1, none⟩ (.int .i64 (sy l k))).rowIs g 25 n (rowF l (k + 1)) :=
  ((h.set (k * 2) _).set (k * 2 + 1) _).congr fun i _ => (rowF_step l k i).symm
theorem row_spots {w : World} {g : Nat} {l : List (Int × Int)} (h : w.rowIs g 25 (l.length * 2) (rowF l l.length)) : SpotsAt w (some ⟨g, 0, none⟩) l := by
  intro i hi
  refine ⟨g, 0, rfl, ?_, ?_⟩
  · rw [h.cell (i := 0 + i * 2) (by omega)]
    unfold rowF
    rw [if_pos (by omega), if_pos (by omega), show (0 + i * 2) / 2 = i by omega]
  · rw [h.cell (i := 0 + i * 2 + 1) (by omega)]
    unfold rowF
    rw [if_pos (by omega), if_neg (by omega), show (0 + i * 2 + 1) / 2 = i by omega]

set_option maxHeartbeats 400000 in
theorem szSpotS_fits (a : Option Addr) (cap n : Nat) (hn : n ≤ 1048576) (w : World) :
    Calls Try.prog 27 #[.slice a n cap, .int .i64 1048576] w fun e w' => e = .returned (.int .i64 (1048576 - n)) ∧ w = w' := by
  skip
  all_goals
    go_enter Try.func27, Try.ntmps27
    go_wp2
    go_ret
    exact ⟨rfl, rfl⟩

set_option maxHeartbeats 400000 in
theorem szSpotS_over (a : Option Addr) (cap n : Nat) (hn : 1048576 < n) (hm : n ≤ 9223372036854775807) (w : World) :
    Calls Try.prog 27 #[.slice a n cap, .int .i64 1048576] w fun e w' => e = .returned (.int .i64 (-1)) ∧ w = w' := by
  skip
  all_goals
    go_enter Try.func27, Try.ntmps27
    go_wp2
    go_ret
    exact ⟨rfl, rfl⟩

set_option maxHeartbeats 1000000 in
theorem toSpotS_any (a : Option Addr) (cap : Nat) (l : List (Int × Int)) (hl : l.length ≤ 1048576) {w : World} (ha : SpotsAt w a l) :
    Calls Try.prog 29 #[.slice a l.length cap] w fun e w' => e = .returned (.slice (some ⟨w.heap.size, 0, none⟩) l.length l.length) ∧ w'.rowIs w.heap.size 25 (l.length * 2) (rowF l l.length) ∧ Below w.heap.size w w' := by
  have hmk := make_spots l.length hl
  go_enter Try.func29, Try.ntmps29
  go_wp2
  go_loopw [4] (fun i wr => ∃ k : Nat, k ≤ l.length ∧ i = .int .i64 k ∧ wr.rowIs w.heap.size 25 (l.length * 2) (rowF l k) ∧ Below w.heap.size w wr) (fun i _ => l.length - (intOf i).toNat)
  case atStart => exact ⟨0, Nat.zero_le _, rfl, row_start w l, (by repeat (first | exact Below.refl _ _ | assumption | refine Below.drew ?_ | refine below_drewN ?_ _ | refine Below.alloc ?_ (by first | omega | (simp; done) | (simp; omega)) _ | refine Below.setCell ?_ (by first | omega | (simp; done) | (simp; omega)) _ | refine Below.trans ?_ (Below.mono (by assumption) (by first | omega | (simp; done) | (simp; omega)))))⟩
  case round =>
    obtain ⟨k, hk, rfl, hrow, hbr⟩ := hrel
    have hsr := hbr.size
    have hgl := hrow.lt
    clear hmk
    by_cases hlt : k < l.length
    · obtain ⟨b, off, rfl, c0, c1⟩ := (ha.below hbr) k hlt
      go_wp2_with (go_at_call 14; (refine (toSpot_any _ _ _).mono ?_; rintro e w1 ⟨rfl, hb1⟩; have hs1 := hb1.size; have hrow1 := hrow.of_block (hb1.block _ hrow.lt); have r0 := hrow1.cell (i := k * 2) (by omega); have r1 := hrow1.cell (i := k * 2 + 1) (by omega); have f0 := hrow1.frozen (k * 2); have f1 := hrow1.frozen (k * 2 + 1)))
      go_roundw
      case rel => exact ⟨k + 1, by omega, by go_num, row_step hrow1, (by repeat (first | exact Below.refl _ _ | assumption | refine Below.drew ?_ | refine below_drewN ?_ _ | refine Below.alloc ?_ (by first | omega | (simp; done) | (simp; omega)) _ | refine Below.setCell ?_ (by first | omega | (simp; done) | (simp; omega)) _ | refine Below.trans ?_ (Below.mono (by assumption) (by first | omega | (simp; done) | (simp; omega)))))⟩
      case measure => simp [intOf]; omega
    · obtain rfl : k = l.length := by omega
      go_wp2
      go_ret
      exact ⟨rfl, hrow, (by repeat (first | exact Below.refl _ _ | assumption | refine Below.drew ?_ | refine below_drewN ?_ _ | refine Below.alloc ?_ (by first | omega | (simp; done) | (simp; omega)) _ | refine Below.setCell ?_ (by first | omega | (simp; done) | (simp; omega)) _ | refine Below.trans ?_ (Below.mono (by assumption) (by first | omega | (simp; done) | (simp; omega)))))⟩

set_option maxHeartbeats 1000000 in
theorem eqSpotS_same (a a' : Option Addr) (cap cap' : Nat) (l : List (Int × Int)) (hl : l.length ≤ 1048576) {w : World} (ha : SpotsAt w a l) (ha' : SpotsAt w a' l) :
    Calls Try.prog 31 #[.slice a l.length cap, .slice a' l.length cap'] w fun e w' => e = .returned (.bool true) ∧ Below w.heap.size w w' := by
  go_enter Try.func31, Try.ntmps31
  go_wp2
  go_loopw [5] (fun i wr => ∃ k : Nat, k ≤ l.length ∧ i = .int .i64 k ∧ Below w.heap.size w wr) (fun i _ => l.length - (intOf i).toNat)
  case atStart => exact ⟨0, Nat.zero_le _, rfl, Below.refl _ _⟩
  case round =>
    obtain ⟨k, hk, rfl, hbr⟩ := hrel
    have hsr := hbr.size
    by_cases hlt : k < l.length
    · obtain ⟨b, off, rfl, c0, c1⟩ := (ha.below hbr) k hlt
      obtain ⟨b', off', rfl, d0, d1⟩ := (ha'.below hbr) k hlt
      have i0 : (0 : Int) ≤ (k : Int) := by omega
      have i1 : (k : Int) < (l.length : Int) := by omega
      go_wp2
      go_region_held3 (fun w' => w'.cell? ⟨b, off + k * 2, none⟩ = some (.int .i64 (sx l k)) ∧ w'.cell? ⟨b, off + k * 2 + 1, none⟩ = some (.int .i64 (sy l k)) ∧ w'.cell? ⟨b', off' + k * 2, none⟩ = some (.int .i64 (sx l k)) ∧ w'.cell? ⟨b', off' + k * 2 + 1, none⟩ = some (.int .i64 (sy l k))) (go_keep)
        (first | (go_at_call 20; (refine (eqSpot_same _ _ _).mono ?_; rintro e w1 ⟨rfl, hb1⟩; have hs1 := hb1.size; have e0 := (hb1.cell (World.block_lt_of_cell? _ _ c0)).trans c0; have e1 := (hb1.cell (World.block_lt_of_cell? _ _ c1)).trans c1; have e2 := (hb1.cell (World.block_lt_of_cell? _ _ d0)).trans d0; have e3 := (hb1.cell (World.block_lt_of_cell? _ _ d1)).trans d1)))
      go_wp2
      go_roundw
      case rel => exact ⟨k + 1, by omega, by go_num, (by repeat (first | exact Below.refl _ _ | assumption | refine Below.drew ?_ | refine below_drewN ?_ _ | refine Below.alloc ?_ (by first | omega | (simp; done) | (simp; omega)) _ | refine Below.setCell ?_ (by first | omega | (simp; done) | (simp; omega)) _ | refine Below.trans ?_ (Below.mono (by assumption) (by first | omega | (simp; done) | (simp; omega)))))⟩
      case measure => simp [intOf]; omega
    · go_wp2
      go_ret
      exact ⟨rfl, (by repeat (first | exact Below.refl _ _ | assumption | refine Below.drew ?_ | refine below_drewN ?_ _ | refine Below.alloc ?_ (by first | omega | (simp; done) | (simp; omega)) _ | refine Below.setCell ?_ (by first | omega | (simp; done) | (simp; omega)) _ | refine Below.trans ?_ (Below.mono (by assumption) (by first | omega | (simp; done) | (simp; omega)))))⟩

end Go.Proofs.Ythmgbfnjkiehcaa
