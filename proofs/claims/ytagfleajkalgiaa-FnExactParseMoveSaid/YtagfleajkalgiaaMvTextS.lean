/- MoveText: texts of moves, spec's side. No conditions but those written in each theorem. -/
import Derived.Test.YtagfleajkalgiaaStTextS
import Derived.Test.YtagfleajkalgiaaMv
import Derived.Deep.RegionHeld3
import Derived.Deep.DrawnRows
import Derived.Deep.DeepCutAuto
import Derived.IntWalk
import Derived.Lib.QuietBelow
namespace Go.Proofs.Ytagfleajkalgiaa
open Go.RowKit Go.Sort


attribute [local go_sem ↓] Go.wp_at_zero Go.wp_at_succ

/-- A valid move's text. -/
def moveT (x1 y1 x2 y2 n : Int) : ByteArray := spotT x1 y1 ++ ⟨#[32]⟩ ++ spotT x2 y2 ++ ⟨#[32]⟩ ++ decT n.toNat
theorem spotT_size {x y : Int} (h : onField x y = true) : (spotT x y).size ≤ 123 := by
  obtain ⟨⟨a1, a2⟩, a3, a4⟩ := onField_iff.1 h
  have s1 := partT_size x a1 a2
  have s2 := partT_size y a3 (by omega)
  have s3 : (⟨#[44]⟩ : ByteArray).size = 1 := rfl
  unfold spotT
  simp only [ByteArray.size_append]
  omega

set_option maxHeartbeats 1000000 in
theorem mvText_any (x1 y1 x2 y2 n : Int) (h1 : isMv x1 y1 x2 y2 n = true) (w : World) :
    Calls Try.prog 54 #[.agg #[.int .i64 x1, .int .i64 y1, .int .i64 x2, .int .i64 y2, .int .i64 n]] w fun e w' => e = .returned (.string (moveT x1 y1 x2 y2 n)) ∧ Below w.heap.size w w' := by
  obtain ⟨g1, g2, n0, n1⟩ := isMv_iff.1 h1
  have s1 := spotT_size g1
  have s2 := spotT_size g2
  obtain ⟨N, hN⟩ : ∃ N : Nat, n = (N : Int) := ⟨n.toNat, by omega⟩
  subst hN
  have eT : moveT x1 y1 x2 y2 (N : Int) = spotT x1 y1 ++ ⟨#[32]⟩ ++ spotT x2 y2 ++ ⟨#[32]⟩ ++ decT N := by unfold moveT; rw [Int.toNat_natCast]
  have s3 := decT_size N (by omega)
  rw [eT]
  clear eT
  have HT1 := Lib.hid (fun W => stText_any x1 y1 g1 W)
  have HT2 := Lib.hid (fun W => stText_any x2 y2 g2 W)
  have HN := Lib.hid (fun W => l1Num_nat N (by omega) W)
  obtain ⟨T1, hT1⟩ : ∃ T, T = spotT x1 y1 := ⟨_, rfl⟩
  obtain ⟨T2, hT2⟩ : ∃ T, T = spotT x2 y2 := ⟨_, rfl⟩
  obtain ⟨T3, hT3⟩ : ∃ T, T = decT N := ⟨_, rfl⟩
  rw [← hT1] at HT1 s1 ⊢
  rw [← hT2] at HT2 s2 ⊢
  rw [← hT3] at HN s3 ⊢
  clear hT1 hT2 hT3 g1 g2 n0 n1 h1
  have m1 : ¬ 9223372036854775807 < T1.size + 1 := by omega
  have m2 : ¬ 9223372036854775807 < T1.size + 1 + T2.size := by omega
  have m3 : ¬ 9223372036854775807 < T1.size + 1 + T2.size + 1 := by omega
  have m4 : ¬ 9223372036854775807 < T1.size + 1 + T2.size + 1 + T3.size := by omega
  clear s1 s2 s3
  go_enter Try.func54, Try.ntmps54
  go_upto_region 1 with fail
  obtain ⟨W, hW⟩ : ∃ W, W = w.alloc (.cells #[.int .i64 x1, .int .i64 y1, .int .i64 x2, .int .i64 y2, .int .i64 (N : Int)] 29) := ⟨_, rfl⟩
  rw [← hW]
  have c0 : W.cell? ⟨w.heap.size, 0, none⟩ = some (.int .i64 x1) := by rw [hW]; go_simp
  have c1 : W.cell? ⟨w.heap.size, 1, none⟩ = some (.int .i64 y1) := by rw [hW]; go_simp
  have c2 : W.cell? ⟨w.heap.size, 2, none⟩ = some (.int .i64 x2) := by rw [hW]; go_simp
  have c3 : W.cell? ⟨w.heap.size, 3, none⟩ = some (.int .i64 y2) := by rw [hW]; go_simp
  have c4 : W.cell? ⟨w.heap.size, 4, none⟩ = some (.int .i64 (N : Int)) := by rw [hW]; go_simp
  have hWb : Below w.heap.size w W := by rw [hW]; exact (by repeat (first | exact Below.refl _ _ | assumption | refine Below.drew ?_ | refine below_drewN ?_ _ | refine Below.alloc ?_ (by first | omega | (simp; done) | (simp; omega)) _ | refine Below.setCell ?_ (by first | omega | (simp; done) | (simp; omega)) _ | refine Below.trans ?_ (Below.mono (by assumption) (by first | omega | (simp; done) | (simp; omega)))))
  have hWs : W.heap.size = w.heap.size + 1 := by rw [hW]; simp
  clear hW
  have rgc0 := fun d os => cell_regrown c0 d os
  have rgc1 := fun d os => cell_regrown c1 d os
  have rgc2 := fun d os => cell_regrown c2 d os
  have rgc3 := fun d os => cell_regrown c3 d os
  have rgc4 := fun d os => cell_regrown c4 d os
  refine wp_region_quiet_below (by kernel_rfl) (by kernel_rfl) ?_
  repeat (quiet_step (first | (with_reducible exact Calls.regrown_of (HT1.out _)) | (with_reducible exact Calls.regrown_of (HT2.out _)) | (with_reducible exact Calls.regrown_of (HN.out _))))
  refine wpQuiet_nil ?_
  intro _ hw'
  obtain ⟨⟨dq, osq⟩, hw''⟩ := hw'
  subst hw''
  have hq := below_regrown W dq osq
  generalize grow (redrawn W dq) osq = W2 at hq ⊢
  have hB2 : Below w.heap.size w W2 := hWb.trans (hq.mono (by omega))
  go_wp2
  go_ret
  exact ⟨rfl, hB2⟩

end Go.Proofs.Ytagfleajkalgiaa
