/- ClosestMoves and LeastOfAll: the specification's side. Conditions: those written in each theorem. -/
import Derived.Test.YtjojjmmdgldcbaaApClo
import Derived.Deep.RegionHeld3
import Derived.Deep.DrawnRows
import Derived.IntWalk
import Derived.StillTailTactics
import Derived.Deep.DeepCutAuto
import Derived.Deep.LoopGhost
import Derived.Lib.QuietBelow
namespace Go.Proofs.Ytjojjmmdgldcbaa
open Go.RowKit Go.Sort


attribute [local go_sem ↓] Go.wp_at_zero Go.wp_at_succ

set_option maxRecDepth 100000 in
set_option maxHeartbeats 2000000 in
theorem specClosest_no (a : Option Addr) (cap : Nat) (l : List (Int × Int × Int × Int × Int)) (hl : l.length ≤ 1048576) {w : World} (hv : mvsOk l = false) (ha : MovesAt w a l) :
    Calls Try.prog 31 #[.slice a l.length cap] w fun e w' => e = .returned (.tuple #[.int .i64 (guardI (mvsOk l) ((clo l).1 : Int)), .int .i64 (guardI (mvsOk l) ((clo l).2 : Int)), .bool (mvsOk l)]) ∧ Below w.heap.size w w' := by
  have HG := Lib.hid (fun (W : World) (hb : Below w.heap.size w W) => apList_any a cap l hl (ha.below hb))
  rw [hv] at HG
  rw [hv]
  clear hv ha
  go_enter Try.func31, Try.ntmps31
  go_wp2_with (go_at_call 76; ((with_reducible refine (HG.out _ (by repeat (first | exact Below.refl _ _ | assumption | refine Below.drew ?_ | refine below_drewN ?_ _ | refine Below.alloc ?_ (by first | omega | (simp; done) | (simp; omega)) _ | refine Below.setCell ?_ (by first | omega | (simp; done) | (simp; omega)) _ | refine Below.trans ?_ (Below.mono (by assumption) (by first | omega | (simp; done) | (simp; omega)))))).mono ?_); rintro e w1 ⟨rfl, hb1⟩; have hs1 := hb1.size; (try simp at hs1)))
  first | exact bodyPost_ret (v := .tuple #[.int .i64 0, .int .i64 0, .bool false]) (by simp [results, Try.results31, go_sem, *]) rfl ⟨rfl, (by repeat (first | exact Below.refl _ _ | assumption | refine Below.drew ?_ | refine below_drewN ?_ _ | refine Below.alloc ?_ (by first | omega | (simp; done) | (simp; omega)) _ | refine Below.setCell ?_ (by first | omega | (simp; done) | (simp; omega)) _ | refine Below.trans ?_ (Below.mono (by assumption) (by first | omega | (simp; done) | (simp; omega)))))⟩

set_option maxRecDepth 100000 in
set_option maxHeartbeats 2000000 in
theorem specClosest_yes (a : Option Addr) (cap : Nat) (l : List (Int × Int × Int × Int × Int)) (hl : l.length ≤ 1048576) {w : World} (hv : mvsOk l = true) (ha : MovesAt w a l) :
    Calls Try.prog 31 #[.slice a l.length cap] w fun e w' => e = .returned (.tuple #[.int .i64 (guardI (mvsOk l) ((clo l).1 : Int)), .int .i64 (guardI (mvsOk l) ((clo l).2 : Int)), .bool (mvsOk l)]) ∧ Below w.heap.size w w' := by
  have HG := Lib.hid (fun (W : World) (hb : Below w.heap.size w W) => apList_any a cap l hl (ha.below hb))
  rw [hv] at HG
  have HC := Lib.hid (fun (W : World) (hb : Below w.heap.size w W) => apClosest_any a cap l hv (ha.below hb))
  obtain ⟨F, hF⟩ : ∃ F, F = (clo l).1 := ⟨_, rfl⟩
  obtain ⟨S, hS⟩ : ∃ F, F = (clo l).2 := ⟨_, rfl⟩
  rw [← hF, ← hS] at HC
  rw [hv, ← hF, ← hS]
  clear hv ha hF hS
  go_enter Try.func31, Try.ntmps31
  go_wp2_with (first | (go_at_call 76; ((with_reducible refine (HG.out _ (by repeat (first | exact Below.refl _ _ | assumption | refine Below.drew ?_ | refine below_drewN ?_ _ | refine Below.alloc ?_ (by first | omega | (simp; done) | (simp; omega)) _ | refine Below.setCell ?_ (by first | omega | (simp; done) | (simp; omega)) _ | refine Below.trans ?_ (Below.mono (by assumption) (by first | omega | (simp; done) | (simp; omega)))))).mono ?_); rintro e w1 ⟨rfl, hb1⟩; have hs1 := hb1.size; (try simp at hs1))) | (go_at_call 77; ((with_reducible refine (HC.out _ (by repeat (first | exact Below.refl _ _ | assumption | refine Below.drew ?_ | refine below_drewN ?_ _ | refine Below.alloc ?_ (by first | omega | (simp; done) | (simp; omega)) _ | refine Below.setCell ?_ (by first | omega | (simp; done) | (simp; omega)) _ | refine Below.trans ?_ (Below.mono (by assumption) (by first | omega | (simp; done) | (simp; omega)))))).mono ?_); rintro e w1 ⟨rfl, hb1⟩; have hs1 := hb1.size; (try simp at hs1))))
  first | exact bodyPost_ret (v := .tuple #[.int .i64 (F : Int), .int .i64 (S : Int), .bool true]) (by simp [results, Try.results31, go_sem, *]) rfl ⟨rfl, (by repeat (first | exact Below.refl _ _ | assumption | refine Below.drew ?_ | refine below_drewN ?_ _ | refine Below.alloc ?_ (by first | omega | (simp; done) | (simp; omega)) _ | refine Below.setCell ?_ (by first | omega | (simp; done) | (simp; omega)) _ | refine Below.trans ?_ (Below.mono (by assumption) (by first | omega | (simp; done) | (simp; omega)))))⟩

theorem specClosest_any (a : Option Addr) (cap : Nat) (l : List (Int × Int × Int × Int × Int)) (hl : l.length ≤ 1048576) {w : World} (ha : MovesAt w a l) :
    Calls Try.prog 31 #[.slice a l.length cap] w fun e w' => e = .returned (.tuple #[.int .i64 (guardI (mvsOk l) ((clo l).1 : Int)), .int .i64 (guardI (mvsOk l) ((clo l).2 : Int)), .bool (mvsOk l)]) ∧ Below w.heap.size w w' := by
  cases hv : mvsOk l
  · rw [← hv]; exact specClosest_no a cap l hl hv ha
  · rw [← hv]; exact specClosest_yes a cap l hl hv ha

set_option maxRecDepth 100000 in
set_option maxHeartbeats 2000000 in
theorem specLeastAll_no (a : Option Addr) (cap : Nat) (l : List (Int × Int × Int × Int × Int)) (hl : l.length ≤ 1048576) {w : World} (hv : mvsOk l = false) (ha : MovesAt w a l) :
    Calls Try.prog 37 #[.slice a l.length cap] w fun e w' => e = .returned (.tuple #[.int .i64 (guardI (mvsOk l) (al2 l (clo l).1 (clo l).2)), .int .i64 (guardI (mvsOk l) (ad2 l (clo l).1 (clo l).2)), .bool (mvsOk l)]) ∧ Below w.heap.size w w' := by
  have HG := Lib.hid (fun (W : World) (hb : Below w.heap.size w W) => apList_any a cap l hl (ha.below hb))
  rw [hv] at HG
  rw [hv]
  clear hv ha
  go_enter Try.func37, Try.ntmps37
  go_wp2_with (go_at_call 76; ((with_reducible refine (HG.out _ (by repeat (first | exact Below.refl _ _ | assumption | refine Below.drew ?_ | refine below_drewN ?_ _ | refine Below.alloc ?_ (by first | omega | (simp; done) | (simp; omega)) _ | refine Below.setCell ?_ (by first | omega | (simp; done) | (simp; omega)) _ | refine Below.trans ?_ (Below.mono (by assumption) (by first | omega | (simp; done) | (simp; omega)))))).mono ?_); rintro e w1 ⟨rfl, hb1⟩; have hs1 := hb1.size; (try simp at hs1)))
  first | exact bodyPost_ret (v := .tuple #[.int .i64 0, .int .i64 0, .bool false]) (by simp [results, Try.results37, go_sem, *]) rfl ⟨rfl, (by repeat (first | exact Below.refl _ _ | assumption | refine Below.drew ?_ | refine below_drewN ?_ _ | refine Below.alloc ?_ (by first | omega | (simp; done) | (simp; omega)) _ | refine Below.setCell ?_ (by first | omega | (simp; done) | (simp; omega)) _ | refine Below.trans ?_ (Below.mono (by assumption) (by first | omega | (simp; done) | (simp; omega)))))⟩

set_option maxRecDepth 100000 in
set_option maxHeartbeats 2000000 in
theorem specLeastAll_yes (a : Option Addr) (cap : Nat) (l : List (Int × Int × Int × Int × Int)) (hl : l.length ≤ 1048576) {w : World} (hv : mvsOk l = true) (ha : MovesAt w a l) :
    Calls Try.prog 37 #[.slice a l.length cap] w fun e w' => e = .returned (.tuple #[.int .i64 (guardI (mvsOk l) (al2 l (clo l).1 (clo l).2)), .int .i64 (guardI (mvsOk l) (ad2 l (clo l).1 (clo l).2)), .bool (mvsOk l)]) ∧ Below w.heap.size w w' := by
  obtain ⟨n2, n12, hall⟩ := mvsOk_iff hv
  obtain ⟨hFl, hSl⟩ := clo_lt n2
  have HG := Lib.hid (fun (W : World) (hb : Below w.heap.size w W) => apList_any a cap l hl (ha.below hb))
  rw [hv] at HG
  have HC := Lib.hid (fun (W : World) (hb : Below w.heap.size w W) => apClosest_any a cap l hv (ha.below hb))
  obtain ⟨F, hF⟩ : ∃ F, F = (clo l).1 := ⟨_, rfl⟩
  obtain ⟨S, hS⟩ : ∃ F, F = (clo l).2 := ⟨_, rfl⟩
  rw [← hF] at hFl
  rw [← hS] at hSl
  rw [← hF, ← hS] at HC
  rw [hv, ← hF, ← hS]
  have HL := Lib.hid (fun W => apLeast_at (hall F S hFl hSl) W)
  obtain ⟨b, off, rfl, hb0, _⟩ := ha.two hFl hSl
  have HA := Lib.hid ha
  clear hv ha hF hS hall
  obtain ⟨P, hP⟩ : ∃ P, P = al2 l F S := ⟨_, rfl⟩
  obtain ⟨Q, hQ⟩ : ∃ P, P = ad2 l F S := ⟨_, rfl⟩
  rw [← hP, ← hQ] at HL
  rw [← hP, ← hQ]
  clear hP hQ
  have m0 : (0 : Int) ≤ (F : Int) := by omega
  have m1 : (F : Int) < (l.length : Int) := by omega
  have m2 : (0 : Int) ≤ (S : Int) := by omega
  have m3 : (S : Int) < (l.length : Int) := by omega
  go_enter Try.func37, Try.ntmps37
  go_upto_region 4 with (first | (go_at_call 76; ((with_reducible refine (HG.out _ (by repeat (first | exact Below.refl _ _ | assumption | refine Below.drew ?_ | refine below_drewN ?_ _ | refine Below.alloc ?_ (by first | omega | (simp; done) | (simp; omega)) _ | refine Below.setCell ?_ (by first | omega | (simp; done) | (simp; omega)) _ | refine Below.trans ?_ (Below.mono (by assumption) (by first | omega | (simp; done) | (simp; omega)))))).mono ?_); rintro e w1 ⟨rfl, hb1⟩; have hs1 := hb1.size; (try simp at hs1))) | (go_at_call 77; ((with_reducible refine (HC.out _ (by repeat (first | exact Below.refl _ _ | assumption | refine Below.drew ?_ | refine below_drewN ?_ _ | refine Below.alloc ?_ (by first | omega | (simp; done) | (simp; omega)) _ | refine Below.setCell ?_ (by first | omega | (simp; done) | (simp; omega)) _ | refine Below.trans ?_ (Below.mono (by assumption) (by first | omega | (simp; done) | (simp; omega)))))).mono ?_); rintro e w1 ⟨rfl, hb1⟩; have hs1 := hb1.size; (try simp at hs1))))
  have hB1 : Below w.heap.size w w1 := (by repeat (first | exact Below.refl _ _ | assumption | refine Below.drew ?_ | refine below_drewN ?_ _ | refine Below.alloc ?_ (by first | omega | (simp; done) | (simp; omega)) _ | refine Below.setCell ?_ (by first | omega | (simp; done) | (simp; omega)) _ | refine Below.trans ?_ (Below.mono (by assumption) (by first | omega | (simp; done) | (simp; omega)))))
  obtain ⟨W1, rfl⟩ : ∃ x, x = w1 := ⟨_, rfl⟩
  clear hb1
  obtain ⟨b', off', hbb, hb0', c0, c1, c2, c3, c4, d0, d1, d2, d3, d4⟩ := (HA.out.below hB1).two hFl hSl
  simp only [Option.some.injEq, Addr.mk.injEq] at hbb
  obtain ⟨hx1, hx2, _⟩ := hbb
  subst hx1 hx2
  have rgc0 := fun d os => cell_regrown c0 d os
  have rgc1 := fun d os => cell_regrown c1 d os
  have rgc2 := fun d os => cell_regrown c2 d os
  have rgc3 := fun d os => cell_regrown c3 d os
  have rgc4 := fun d os => cell_regrown c4 d os
  have rgd0 := fun d os => cell_regrown d0 d os
  have rgd1 := fun d os => cell_regrown d1 d os
  have rgd2 := fun d os => cell_regrown d2 d os
  have rgd3 := fun d os => cell_regrown d3 d os
  have rgd4 := fun d os => cell_regrown d4 d os
  refine wp_region_quiet_below (by kernel_rfl) (by kernel_rfl) ?_
  repeat (quiet_step (first | (with_reducible exact Calls.regrown_of (HL.out _))))
  refine wpQuiet_nil ?_
  intro _ hw'
  obtain ⟨⟨dq, osq⟩, hw''⟩ := hw'
  subst hw''
  have hq := below_regrown W1 dq osq
  generalize grow (redrawn W1 dq) osq = W2 at hq ⊢
  have hB2 : Below w.heap.size w W2 := hB1.trans (hq.mono (by first | omega | (simp; done) | (simp; omega)))
  clear rgc0 rgc1 rgc2 rgc3 rgc4 rgd0 rgd1 rgd2 rgd3 rgd4 c0 c1 c2 c3 c4 d0 d1 d2 d3 d4 hq hB1
  go_wp2
  first | exact bodyPost_ret (v := .tuple #[.int .i64 P, .int .i64 Q, .bool true]) (by simp [results, Try.results37, go_sem, *]) rfl ⟨rfl, (by repeat (first | exact Below.refl _ _ | assumption | refine Below.drew ?_ | refine below_drewN ?_ _ | refine Below.alloc ?_ (by first | omega | (simp; done) | (simp; omega)) _ | refine Below.setCell ?_ (by first | omega | (simp; done) | (simp; omega)) _ | refine Below.trans ?_ (Below.mono (by assumption) (by first | omega | (simp; done) | (simp; omega)))))⟩

theorem specLeastAll_any (a : Option Addr) (cap : Nat) (l : List (Int × Int × Int × Int × Int)) (hl : l.length ≤ 1048576) {w : World} (ha : MovesAt w a l) :
    Calls Try.prog 37 #[.slice a l.length cap] w fun e w' => e = .returned (.tuple #[.int .i64 (guardI (mvsOk l) (al2 l (clo l).1 (clo l).2)), .int .i64 (guardI (mvsOk l) (ad2 l (clo l).1 (clo l).2)), .bool (mvsOk l)]) ∧ Below w.heap.size w w' := by
  cases hv : mvsOk l
  · rw [← hv]; exact specLeastAll_no a cap l hl hv ha
  · rw [← hv]; exact specLeastAll_yes a cap l hl hv ha

end Go.Proofs.Ytjojjmmdgldcbaa
