/- MoveText, both sides. Conditions: the library's table where it is named, and those written in each theorem. -/
import Derived.Test.YtagfleajkalgiaaDoorMvTextS
import Derived.Test.YtagfleajkalgiaaDoorStTextI
import Derived.Deep.RegionHeld3
import Derived.Deep.DrawnRows
import Derived.Deep.DeepCutAuto
import Derived.IntWalk
namespace Go.Proofs.YtagfleajkalgiaaDoor
open Go.RowKit Go.Sort


attribute [local go_sem ↓] Go.wp_at_zero Go.wp_at_succ

/-- MoveText's first answer. -/
def moveS (x1 y1 x2 y2 n : Int) : ByteArray := if isMv x1 y1 x2 y2 n then moveT x1 y1 x2 y2 n else ⟨#[]⟩
theorem moveS_yes {x1 y1 x2 y2 n : Int} (h : isMv x1 y1 x2 y2 n = true) : moveS x1 y1 x2 y2 n = moveT x1 y1 x2 y2 n := by unfold moveS; rw [if_pos h]
theorem moveS_no {x1 y1 x2 y2 n : Int} (h : isMv x1 y1 x2 y2 n = false) : moveS x1 y1 x2 y2 n = ⟨#[]⟩ := by unfold moveS; rw [h]; rfl

set_option maxHeartbeats 1000000 in
theorem specMoveText_no (x1 y1 x2 y2 n : Int) (h1 : isMv x1 y1 x2 y2 n = false) (w : World) :
    Calls Tryd.prog 12 #[.agg #[.int .i64 x1, .int .i64 y1, .int .i64 x2, .int .i64 y2, .int .i64 n]] w fun e w' => e = .returned (.tuple #[.string ⟨#[]⟩, .bool false]) ∧ Below w.heap.size w w' := by
  obtain ⟨q1, q2, q3, q4, q5, q6, q7⟩ := nadd
  have HM := Lib.hid (fun W => mvGood_any x1 y1 x2 y2 n W)
  rw [h1] at HM
  clear h1
  all_goals
    go_enter Tryd.func12, Tryd.ntmps12
    go_wp2_with (first | (go_at_call 14; ((with_reducible refine (HM.out _).mono ?_); rintro e w1 ⟨rfl, hb1⟩; have hs1 := hb1.size; (try simp at hs1); (first | have hk4 := call_facts hl3 hb1 (by simp) | skip); (first | have hk3 := call_facts hl2 hb1 (by simp) | skip); (first | have hk2 := call_facts hl1 hb1 (by simp) | skip); have hk1 := call_facts (fun b h => h) hb1 (Nat.le_refl _); (first | have hl4 := hk4.1 | skip); (first | have hl3 := hk3.1 | skip); (first | have hl2 := hk2.1 | skip); have hl1 := hk1.1)))
    go_ret2
    exact ⟨rfl, (by repeat (first | exact Below.refl _ _ | assumption | refine Below.drew ?_ | refine below_drewN ?_ _ | refine Below.alloc ?_ (by first | omega | (simp; done) | (simp; omega)) _ | refine Below.setCell ?_ (by first | omega | (simp; done) | (simp; omega)) _ | refine Below.trans ?_ (Below.mono (by assumption) (by first | omega | (simp; done) | (simp; omega)))))⟩

set_option maxHeartbeats 1000000 in
theorem moveText_no (x1 y1 x2 y2 n : Int) (h1 : isMv x1 y1 x2 y2 n = false) (w : World) :
    Calls Tryd.prog 13 #[.agg #[.int .i64 x1, .int .i64 y1, .int .i64 x2, .int .i64 y2, .int .i64 n]] w fun e w' => e = .returned (.tuple #[.string ⟨#[]⟩, .bool false]) ∧ Below w.heap.size w w' := by
  obtain ⟨q1, q2, q3, q4, q5, q6, q7⟩ := nadd
  have HM := Lib.hid (fun W => isMove_any x1 y1 x2 y2 n W)
  rw [h1] at HM
  clear h1
  all_goals
    go_enter Tryd.func13, Tryd.ntmps13
    go_wp2_with (first | (go_at_call 17; ((with_reducible refine (HM.out _).mono ?_); rintro e w1 ⟨rfl, hb1⟩; have hs1 := hb1.size; (try simp at hs1); (first | have hk4 := call_facts hl3 hb1 (by simp) | skip); (first | have hk3 := call_facts hl2 hb1 (by simp) | skip); (first | have hk2 := call_facts hl1 hb1 (by simp) | skip); have hk1 := call_facts (fun b h => h) hb1 (Nat.le_refl _); (first | have hl4 := hk4.1 | skip); (first | have hl3 := hk3.1 | skip); (first | have hl2 := hk2.1 | skip); have hl1 := hk1.1)))
    go_ret2
    exact ⟨rfl, (by repeat (first | exact Below.refl _ _ | assumption | refine Below.drew ?_ | refine below_drewN ?_ _ | refine Below.alloc ?_ (by first | omega | (simp; done) | (simp; omega)) _ | refine Below.setCell ?_ (by first | omega | (simp; done) | (simp; omega)) _ | refine Below.trans ?_ (Below.mono (by assumption) (by first | omega | (simp; done) | (simp; omega)))))⟩

set_option maxHeartbeats 1000000 in
theorem specMoveText_yes (x1 y1 x2 y2 n : Int) (h1 : isMv x1 y1 x2 y2 n = true) (w : World) :
    Calls Tryd.prog 12 #[.agg #[.int .i64 x1, .int .i64 y1, .int .i64 x2, .int .i64 y2, .int .i64 n]] w fun e w' => e = .returned (.tuple #[.string (moveT x1 y1 x2 y2 n), .bool true]) ∧ Below w.heap.size w w' := by
  obtain ⟨q1, q2, q3, q4, q5, q6, q7⟩ := nadd
  have HM := Lib.hid (fun W => mvGood_any x1 y1 x2 y2 n W)
  rw [h1] at HM
  have HX := Lib.hid (fun W => mvText_any x1 y1 x2 y2 n h1 W)
  obtain ⟨T, hT⟩ : ∃ T, T = moveT x1 y1 x2 y2 n := ⟨_, rfl⟩
  rw [← hT] at HX ⊢
  clear h1 hT
  all_goals
    go_enter Tryd.func12, Tryd.ntmps12
    go_wp2_with (first | (go_at_call 14; ((with_reducible refine (HM.out _).mono ?_); rintro e w1 ⟨rfl, hb1⟩; have hs1 := hb1.size; (try simp at hs1); (first | have hk4 := call_facts hl3 hb1 (by simp) | skip); (first | have hk3 := call_facts hl2 hb1 (by simp) | skip); (first | have hk2 := call_facts hl1 hb1 (by simp) | skip); have hk1 := call_facts (fun b h => h) hb1 (Nat.le_refl _); (first | have hl4 := hk4.1 | skip); (first | have hl3 := hk3.1 | skip); (first | have hl2 := hk2.1 | skip); have hl1 := hk1.1)) | (go_at_call 24; ((with_reducible refine (HX.out _).mono ?_); rintro e w1 ⟨rfl, hb1⟩; have hs1 := hb1.size; (try simp at hs1); (first | have hk4 := call_facts hl3 hb1 (by simp) | skip); (first | have hk3 := call_facts hl2 hb1 (by simp) | skip); (first | have hk2 := call_facts hl1 hb1 (by simp) | skip); have hk1 := call_facts (fun b h => h) hb1 (Nat.le_refl _); (first | have hl4 := hk4.1 | skip); (first | have hl3 := hk3.1 | skip); (first | have hl2 := hk2.1 | skip); have hl1 := hk1.1)))
    go_ret2
    exact ⟨rfl, (by repeat (first | exact Below.refl _ _ | assumption | refine Below.drew ?_ | refine below_drewN ?_ _ | refine Below.alloc ?_ (by first | omega | (simp; done) | (simp; omega)) _ | refine Below.setCell ?_ (by first | omega | (simp; done) | (simp; omega)) _ | refine Below.trans ?_ (Below.mono (by assumption) (by first | omega | (simp; done) | (simp; omega)))))⟩

set_option maxHeartbeats 2000000 in
theorem moveText_yes (x1 y1 x2 y2 n : Int) (h1 : isMv x1 y1 x2 y2 n = true) {w : World} (ht : Tab w.heap.size w) :
    Calls Tryd.prog 13 #[.agg #[.int .i64 x1, .int .i64 y1, .int .i64 x2, .int .i64 y2, .int .i64 n]] w fun e w' => e = .returned (.tuple #[.string (moveT x1 y1 x2 y2 n), .bool true]) ∧ Below w.heap.size w w' := by
  obtain ⟨q1, q2, q3, q4, q5, q6, q7⟩ := nadd
  have HM := Lib.hid (fun W => isMove_any x1 y1 x2 y2 n W)
  rw [h1] at HM
  obtain ⟨g1, g2, n0, n1⟩ := isMv_iff.1 h1
  have s1 := spotT_size g1
  have s2 := spotT_size g2
  obtain ⟨N, hN⟩ : ∃ N : Nat, n = (N : Int) := ⟨n.toNat, by omega⟩
  subst hN
  have eT : moveT x1 y1 x2 y2 (N : Int) = spotT x1 y1 ++ ⟨#[32]⟩ ++ spotT x2 y2 ++ ⟨#[32]⟩ ++ decT N := by unfold moveT; rw [Int.toNat_natCast]
  have s3 := decT_size N (by omega)
  rw [eT]
  clear eT
  have HT1 := Lib.hid (fun (W : World) (hb : Below w.heap.size w W) => spotText_any x1 y1 (w := W) (fun x hx => ht x (hb.trans (hx.mono hb.size))))
  have HT2 := Lib.hid (fun (W : World) (hb : Below w.heap.size w W) => spotText_any x2 y2 (w := W) (fun x hx => ht x (hb.trans (hx.mono hb.size))))
  have HN := Lib.hid (fun (W : World) (hb : Below w.heap.size w W) => itoa_any (N : Int) (by omega) (by omega) W (ht W hb))
  rw [textS_yes g1, g1] at HT1
  rw [textS_yes g2, g2] at HT2
  rw [Int.toNat_natCast] at HN
  obtain ⟨T1, hT1⟩ : ∃ T, T = spotT x1 y1 := ⟨_, rfl⟩
  obtain ⟨T2, hT2⟩ : ∃ T, T = spotT x2 y2 := ⟨_, rfl⟩
  obtain ⟨T3, hT3⟩ : ∃ T, T = decT N := ⟨_, rfl⟩
  rw [← hT1] at HT1 s1 ⊢
  rw [← hT2] at HT2 s2 ⊢
  rw [← hT3] at HN s3 ⊢
  clear hT1 hT2 hT3 g1 g2 n0 n1 h1 ht
  have m1 : ¬ 9223372036854775807 < T1.size + 1 := by omega
  have m2 : ¬ 9223372036854775807 < T1.size + 1 + T2.size := by omega
  have m3 : ¬ 9223372036854775807 < T1.size + 1 + T2.size + 1 := by omega
  have m4 : ¬ 9223372036854775807 < T1.size + 1 + T2.size + 1 + T3.size := by omega
  clear s1 s2 s3
  go_enter Tryd.func13, Tryd.ntmps13
  go_wp2_with (first | (go_at_call 17; ((with_reducible refine (HM.out _).mono ?_); rintro e w1 ⟨rfl, hb1⟩; have hs1 := hb1.size; (try simp at hs1); (first | have hk4 := call_facts hl3 hb1 (by simp) | skip); (first | have hk3 := call_facts hl2 hb1 (by simp) | skip); (first | have hk2 := call_facts hl1 hb1 (by simp) | skip); have hk1 := call_facts (fun b h => h) hb1 (Nat.le_refl _); (first | have hl4 := hk4.1 | skip); (first | have hl3 := hk3.1 | skip); (first | have hl2 := hk2.1 | skip); have hl1 := hk1.1)) | (go_at_call 25; ((with_reducible refine (HT1.out _ (by first | exact (by repeat (first | exact Below.refl _ _ | assumption | refine Below.drew ?_ | refine below_drewN ?_ _ | refine Below.alloc ?_ (by first | omega | (simp; done) | (simp; omega)) _ | refine Below.setCell ?_ (by first | omega | (simp; done) | (simp; omega)) _ | refine Below.trans ?_ (Below.mono (by assumption) (by first | omega | (simp; done) | (simp; omega))))))).mono ?_); rintro e w1 ⟨rfl, hb1⟩; have hs1 := hb1.size; (try simp at hs1); (first | have hk4 := call_facts hl3 hb1 (by simp) | skip); (first | have hk3 := call_facts hl2 hb1 (by simp) | skip); (first | have hk2 := call_facts hl1 hb1 (by simp) | skip); have hk1 := call_facts (fun b h => h) hb1 (Nat.le_refl _); (first | have hl4 := hk4.1 | skip); (first | have hl3 := hk3.1 | skip); (first | have hl2 := hk2.1 | skip); have hl1 := hk1.1)) | (go_at_call 25; ((with_reducible refine (HT2.out _ (by first | exact (by repeat (first | exact Below.refl _ _ | assumption | refine Below.drew ?_ | refine below_drewN ?_ _ | refine Below.alloc ?_ (by first | omega | (simp; done) | (simp; omega)) _ | refine Below.setCell ?_ (by first | omega | (simp; done) | (simp; omega)) _ | refine Below.trans ?_ (Below.mono (by assumption) (by first | omega | (simp; done) | (simp; omega))))))).mono ?_); rintro e w1 ⟨rfl, hb1⟩; have hs1 := hb1.size; (try simp at hs1); (first | have hk4 := call_facts hl3 hb1 (by simp) | skip); (first | have hk3 := call_facts hl2 hb1 (by simp) | skip); (first | have hk2 := call_facts hl1 hb1 (by simp) | skip); have hk1 := call_facts (fun b h => h) hb1 (Nat.le_refl _); (first | have hl4 := hk4.1 | skip); (first | have hl3 := hk3.1 | skip); (first | have hl2 := hk2.1 | skip); have hl1 := hk1.1)) | (go_at_call 26; ((with_reducible refine (HN.out _ (by first | exact (by repeat (first | exact Below.refl _ _ | assumption | refine Below.drew ?_ | refine below_drewN ?_ _ | refine Below.alloc ?_ (by first | omega | (simp; done) | (simp; omega)) _ | refine Below.setCell ?_ (by first | omega | (simp; done) | (simp; omega)) _ | refine Below.trans ?_ (Below.mono (by assumption) (by first | omega | (simp; done) | (simp; omega))))))).mono ?_); rintro e w1 ⟨rfl, hb1⟩; have hs1 := hb1.size; (try simp at hs1); (first | have hk4 := call_facts hl3 hb1 (by simp) | skip); (first | have hk3 := call_facts hl2 hb1 (by simp) | skip); (first | have hk2 := call_facts hl1 hb1 (by simp) | skip); have hk1 := call_facts (fun b h => h) hb1 (Nat.le_refl _); (first | have hl4 := hk4.1 | skip); (first | have hl3 := hk3.1 | skip); (first | have hl2 := hk2.1 | skip); have hl1 := hk1.1)))
  go_ret2
  exact ⟨rfl, (by repeat (first | exact Below.refl _ _ | assumption | refine Below.drew ?_ | refine below_drewN ?_ _ | refine Below.alloc ?_ (by first | omega | (simp; done) | (simp; omega)) _ | refine Below.setCell ?_ (by first | omega | (simp; done) | (simp; omega)) _ | refine Below.trans ?_ (Below.mono (by assumption) (by first | omega | (simp; done) | (simp; omega)))))⟩

theorem specMoveText_any (x1 y1 x2 y2 n : Int) (w : World) :
    Calls Tryd.prog 12 #[.agg #[.int .i64 x1, .int .i64 y1, .int .i64 x2, .int .i64 y2, .int .i64 n]] w fun e w' => e = .returned (.tuple #[.string (moveS x1 y1 x2 y2 n), .bool (isMv x1 y1 x2 y2 n)]) ∧ Below w.heap.size w w' := by
  cases h1 : isMv x1 y1 x2 y2 n
  · rw [moveS_no h1]; exact specMoveText_no x1 y1 x2 y2 n h1 w
  · rw [moveS_yes h1]; exact specMoveText_yes x1 y1 x2 y2 n h1 w
theorem moveText_any (x1 y1 x2 y2 n : Int) {w : World} (ht : Tab w.heap.size w) :
    Calls Tryd.prog 13 #[.agg #[.int .i64 x1, .int .i64 y1, .int .i64 x2, .int .i64 y2, .int .i64 n]] w fun e w' => e = .returned (.tuple #[.string (moveS x1 y1 x2 y2 n), .bool (isMv x1 y1 x2 y2 n)]) ∧ Below w.heap.size w w' := by
  cases h1 : isMv x1 y1 x2 y2 n
  · rw [moveS_no h1]; exact moveText_no x1 y1 x2 y2 n h1 w
  · rw [moveS_yes h1]; exact moveText_yes x1 y1 x2 y2 n h1 ht

end Go.Proofs.YtagfleajkalgiaaDoor
