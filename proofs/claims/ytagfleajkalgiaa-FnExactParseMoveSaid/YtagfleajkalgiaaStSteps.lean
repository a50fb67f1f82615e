/- The program's reading of eighths. No conditions but those written in each theorem. -/
import Derived.Test.YtagfleajkalgiaaParseNum
import Derived.Test.YtagfleajkalgiaaCut
import Derived.Test.YtagfleajkalgiaaStNum
import Derived.Deep.RegionHeld3
import Derived.Deep.DrawnRows
import Derived.IntWalk
namespace Go.Proofs.Ytagfleajkalgiaa
open Go.RowKit


attribute [local go_sem ↓] Go.wp_at_zero Go.wp_at_succ
/-- The program's reading of eighths: the value, 0 if there is none. -/
def valP (l : List UInt8) : Int := if okP l = true then readP l else 0
theorem valP_yes {l : List UInt8} (h : okP l = true) : valP l = readP l := by unfold valP; rw [if_pos h]
theorem valP_no {l : List UInt8} (h : okP l = false) : valP l = 0 := by unfold valP; rw [h]; rfl

set_option maxHeartbeats 100000 in
theorem steps_whole_noC (l : List UInt8) (h : (43 : UInt8) ∉ l) (ho : okN l 160 = false) (m : Int) (hl : (l).length ≤ 1048576) (w : World) (hm : w.cell? ⟨0, 0, none⟩ = some (.int .i64 m)) :
    Calls Try.prog 67 #[.string (bs (l))] w fun e w' => e = .returned (.tuple #[.int .i64 (valP (l)), .bool (okP (l))]) ∧ Below w.heap.size w w' := by
  have HC := Lib.hid (cut_miss l 43 m (by omega) h w hm)
  have xHP : ∀ W : World, Calls Try.prog 57 #[.string (bs l), .int .i64 160] W fun e w' => e = .returned (.tuple #[.int .i64 (valN l 160), .bool (okN l 160)]) ∧ Below W.heap.size W w' := fun W => parseNumber_any l 160 (by omega) hl W
  rw [valN_no ho, ho] at xHP
  have HP := Lib.hid xHP
  clear xHP
  have hk := steps_whole_no h ho
  rw [valP_no hk, hk]
  clear hk

  go_enter Try.func67, Try.ntmps67
  go_wp2_with (first | (go_at_call 55; (refine (HC.out ).mono ?_; rintro e w1 ⟨rfl, hb1⟩; have hs1 := hb1.size)) | (go_at_call 57; ((with_reducible refine (HP.out _).mono ?_); rintro e w2 ⟨rfl, hb2⟩; have hs2 := hb2.size)) | (go_at_call 57; ((with_reducible refine (HR.out _).mono ?_); rintro e w2 ⟨rfl, hb2⟩; have hs2 := hb2.size)))
  go_ret2
  exact ⟨rfl, (by repeat (first | exact Below.refl _ _ | assumption | refine Below.drew ?_ | refine below_drewN ?_ _ | refine Below.alloc ?_ (by first | omega | (simp; done) | (simp; omega)) _ | refine Below.setCell ?_ (by first | omega | (simp; done) | (simp; omega)) _ | refine Below.trans ?_ (Below.mono (by assumption) (by first | omega | (simp; done) | (simp; omega)))))⟩

set_option maxHeartbeats 100000 in
theorem steps_whole_yesC (l : List UInt8) (h : (43 : UInt8) ∉ l) (ho : okN l 160 = true) (m : Int) (hl : (l).length ≤ 1048576) (w : World) (hm : w.cell? ⟨0, 0, none⟩ = some (.int .i64 m)) :
    Calls Try.prog 67 #[.string (bs (l))] w fun e w' => e = .returned (.tuple #[.int .i64 (valP (l)), .bool (okP (l))]) ∧ Below w.heap.size w w' := by
  have HC := Lib.hid (cut_miss l 43 m (by omega) h w hm)
  have xHP : ∀ W : World, Calls Try.prog 57 #[.string (bs l), .int .i64 160] W fun e w' => e = .returned (.tuple #[.int .i64 (valN l 160), .bool (okN l 160)]) ∧ Below W.heap.size W w' := fun W => parseNumber_any l 160 (by omega) hl W
  rw [valN_yes ho, ho] at xHP
  have HP := Lib.hid xHP
  clear xHP
  obtain ⟨hk, hv⟩ := steps_whole h ho
  rw [valP_yes hk, hk, hv]
  clear hk hv
  have hb := (okN_iff.1 ho).2
  obtain ⟨n, hn⟩ : ∃ n, n = numL l := ⟨_, rfl⟩
  rw [← hn] at hb HP ⊢
  clear hn
  have v1 : IntKind.i64.wrap ((n : Int) * 8) = 8 * (n : Int) := by rw [IntWalk.i64_in _ (by omega)]; omega

  go_enter Try.func67, Try.ntmps67
  go_wp2_with (first | (go_at_call 55; (refine (HC.out ).mono ?_; rintro e w1 ⟨rfl, hb1⟩; have hs1 := hb1.size)) | (go_at_call 57; ((with_reducible refine (HP.out _).mono ?_); rintro e w2 ⟨rfl, hb2⟩; have hs2 := hb2.size)) | (go_at_call 57; ((with_reducible refine (HR.out _).mono ?_); rintro e w2 ⟨rfl, hb2⟩; have hs2 := hb2.size)))
  go_ret2
  exact ⟨rfl, (by repeat (first | exact Below.refl _ _ | assumption | refine Below.drew ?_ | refine below_drewN ?_ _ | refine Below.alloc ?_ (by first | omega | (simp; done) | (simp; omega)) _ | refine Below.setCell ?_ (by first | omega | (simp; done) | (simp; omega)) _ | refine Below.trans ?_ (Below.mono (by assumption) (by first | omega | (simp; done) | (simp; omega)))))⟩

set_option maxHeartbeats 100000 in
theorem steps_first_noC (p q : List UInt8) (h : (43 : UInt8) ∉ p) (ho : okN p 160 = false) (m : Int) (hl : (p ++ 43 :: q).length ≤ 1048576) (w : World) (hm : w.cell? ⟨0, 0, none⟩ = some (.int .i64 m)) :
    Calls Try.prog 67 #[.string (bs (p ++ 43 :: q))] w fun e w' => e = .returned (.tuple #[.int .i64 (valP (p ++ 43 :: q)), .bool (okP (p ++ 43 :: q))]) ∧ Below w.heap.size w w' := by
  have HC := Lib.hid (cut_hit p q 43 m (by omega) h w hm)
  have xHP : ∀ W : World, Calls Try.prog 57 #[.string (bs p), .int .i64 160] W fun e w' => e = .returned (.tuple #[.int .i64 (valN p 160), .bool (okN p 160)]) ∧ Below W.heap.size W w' := fun W => parseNumber_any p 160 (by omega) (by simp at hl; omega) W
  rw [valN_no ho, ho] at xHP
  have HP := Lib.hid xHP
  clear xHP
  have hk := steps_first_no (q := q) h ho
  rw [valP_no hk, hk]
  clear hk

  go_enter Try.func67, Try.ntmps67
  go_wp2_with (first | (go_at_call 55; (refine (HC.out ).mono ?_; rintro e w1 ⟨rfl, hb1⟩; have hs1 := hb1.size)) | (go_at_call 57; ((with_reducible refine (HP.out _).mono ?_); rintro e w2 ⟨rfl, hb2⟩; have hs2 := hb2.size)) | (go_at_call 57; ((with_reducible refine (HR.out _).mono ?_); rintro e w2 ⟨rfl, hb2⟩; have hs2 := hb2.size)))
  go_ret2
  exact ⟨rfl, (by repeat (first | exact Below.refl _ _ | assumption | refine Below.drew ?_ | refine below_drewN ?_ _ | refine Below.alloc ?_ (by first | omega | (simp; done) | (simp; omega)) _ | refine Below.setCell ?_ (by first | omega | (simp; done) | (simp; omega)) _ | refine Below.trans ?_ (Below.mono (by assumption) (by first | omega | (simp; done) | (simp; omega)))))⟩

set_option maxHeartbeats 100000 in
theorem steps_rest_noC (p q : List UInt8) (h : (43 : UInt8) ∉ p) (ho : okN p 160 = true) (hr : okN q 7 = false) (m : Int) (hl : (p ++ 43 :: q).length ≤ 1048576) (w : World) (hm : w.cell? ⟨0, 0, none⟩ = some (.int .i64 m)) :
    Calls Try.prog 67 #[.string (bs (p ++ 43 :: q))] w fun e w' => e = .returned (.tuple #[.int .i64 (valP (p ++ 43 :: q)), .bool (okP (p ++ 43 :: q))]) ∧ Below w.heap.size w w' := by
  have HC := Lib.hid (cut_hit p q 43 m (by omega) h w hm)
  have xHP : ∀ W : World, Calls Try.prog 57 #[.string (bs p), .int .i64 160] W fun e w' => e = .returned (.tuple #[.int .i64 (valN p 160), .bool (okN p 160)]) ∧ Below W.heap.size W w' := fun W => parseNumber_any p 160 (by omega) (by simp at hl; omega) W
  rw [valN_yes ho, ho] at xHP
  have HP := Lib.hid xHP
  clear xHP
  have xHR : ∀ W : World, Calls Try.prog 57 #[.string (bs q), .int .i64 7] W fun e w' => e = .returned (.tuple #[.int .i64 (valN q 7), .bool (okN q 7)]) ∧ Below W.heap.size W w' := fun W => parseNumber_any q 7 (by omega) (by simp at hl; omega) W
  rw [valN_no hr, hr] at xHR
  have HR := Lib.hid xHR
  clear xHR
  have hk := steps_rest_no h (Or.inl hr)
  rw [valP_no hk, hk]
  clear hk
  have hb := (okN_iff.1 ho).2

  go_enter Try.func67, Try.ntmps67
  go_wp2_with (first | (go_at_call 55; (refine (HC.out ).mono ?_; rintro e w1 ⟨rfl, hb1⟩; have hs1 := hb1.size)) | (go_at_call 57; ((with_reducible refine (HP.out _).mono ?_); rintro e w2 ⟨rfl, hb2⟩; have hs2 := hb2.size)) | (go_at_call 57; ((with_reducible refine (HR.out _).mono ?_); rintro e w2 ⟨rfl, hb2⟩; have hs2 := hb2.size)))
  go_ret2
  exact ⟨rfl, (by repeat (first | exact Below.refl _ _ | assumption | refine Below.drew ?_ | refine below_drewN ?_ _ | refine Below.alloc ?_ (by first | omega | (simp; done) | (simp; omega)) _ | refine Below.setCell ?_ (by first | omega | (simp; done) | (simp; omega)) _ | refine Below.trans ?_ (Below.mono (by assumption) (by first | omega | (simp; done) | (simp; omega)))))⟩

set_option maxHeartbeats 100000 in
theorem steps_rest_zeroC (p q : List UInt8) (h : (43 : UInt8) ∉ p) (ho : okN p 160 = true) (hr : okN q 7 = true) (h0 : numL q = 0) (m : Int) (hl : (p ++ 43 :: q).length ≤ 1048576) (w : World) (hm : w.cell? ⟨0, 0, none⟩ = some (.int .i64 m)) :
    Calls Try.prog 67 #[.string (bs (p ++ 43 :: q))] w fun e w' => e = .returned (.tuple #[.int .i64 (valP (p ++ 43 :: q)), .bool (okP (p ++ 43 :: q))]) ∧ Below w.heap.size w w' := by
  have HC := Lib.hid (cut_hit p q 43 m (by omega) h w hm)
  have xHP : ∀ W : World, Calls Try.prog 57 #[.string (bs p), .int .i64 160] W fun e w' => e = .returned (.tuple #[.int .i64 (valN p 160), .bool (okN p 160)]) ∧ Below W.heap.size W w' := fun W => parseNumber_any p 160 (by omega) (by simp at hl; omega) W
  rw [valN_yes ho, ho] at xHP
  have HP := Lib.hid xHP
  clear xHP
  have xHR : ∀ W : World, Calls Try.prog 57 #[.string (bs q), .int .i64 7] W fun e w' => e = .returned (.tuple #[.int .i64 (valN q 7), .bool (okN q 7)]) ∧ Below W.heap.size W w' := fun W => parseNumber_any q 7 (by omega) (by simp at hl; omega) W
  rw [valN_yes hr, hr] at xHR
  have HR := Lib.hid xHR
  clear xHR
  have hk := steps_rest_no h (Or.inr h0)
  rw [valP_no hk, hk]
  clear hk
  have hb := (okN_iff.1 ho).2
  rw [h0] at HR

  go_enter Try.func67, Try.ntmps67
  go_wp2_with (first | (go_at_call 55; (refine (HC.out ).mono ?_; rintro e w1 ⟨rfl, hb1⟩; have hs1 := hb1.size)) | (go_at_call 57; ((with_reducible refine (HP.out _).mono ?_); rintro e w2 ⟨rfl, hb2⟩; have hs2 := hb2.size)) | (go_at_call 57; ((with_reducible refine (HR.out _).mono ?_); rintro e w2 ⟨rfl, hb2⟩; have hs2 := hb2.size)))
  go_ret2
  exact ⟨rfl, (by repeat (first | exact Below.refl _ _ | assumption | refine Below.drew ?_ | refine below_drewN ?_ _ | refine Below.alloc ?_ (by first | omega | (simp; done) | (simp; omega)) _ | refine Below.setCell ?_ (by first | omega | (simp; done) | (simp; omega)) _ | refine Below.trans ?_ (Below.mono (by assumption) (by first | omega | (simp; done) | (simp; omega)))))⟩

set_option maxHeartbeats 100000 in
theorem steps_bothC (p q : List UInt8) (h : (43 : UInt8) ∉ p) (ho : okN p 160 = true) (hr : okN q 7 = true) (h0 : numL q ≠ 0) (m : Int) (hl : (p ++ 43 :: q).length ≤ 1048576) (w : World) (hm : w.cell? ⟨0, 0, none⟩ = some (.int .i64 m)) :
    Calls Try.prog 67 #[.string (bs (p ++ 43 :: q))] w fun e w' => e = .returned (.tuple #[.int .i64 (valP (p ++ 43 :: q)), .bool (okP (p ++ 43 :: q))]) ∧ Below w.heap.size w w' := by
  have HC := Lib.hid (cut_hit p q 43 m (by omega) h w hm)
  have xHP : ∀ W : World, Calls Try.prog 57 #[.string (bs p), .int .i64 160] W fun e w' => e = .returned (.tuple #[.int .i64 (valN p 160), .bool (okN p 160)]) ∧ Below W.heap.size W w' := fun W => parseNumber_any p 160 (by omega) (by simp at hl; omega) W
  rw [valN_yes ho, ho] at xHP
  have HP := Lib.hid xHP
  clear xHP
  have xHR : ∀ W : World, Calls Try.prog 57 #[.string (bs q), .int .i64 7] W fun e w' => e = .returned (.tuple #[.int .i64 (valN q 7), .bool (okN q 7)]) ∧ Below W.heap.size W w' := fun W => parseNumber_any q 7 (by omega) (by simp at hl; omega) W
  rw [valN_yes hr, hr] at xHR
  have HR := Lib.hid xHR
  clear xHR
  obtain ⟨hk, hv⟩ := steps_both h ho hr h0
  rw [valP_yes hk, hk, hv]
  clear hk hv
  have hb := (okN_iff.1 ho).2
  have hb2 := (okN_iff.1 hr).2
  obtain ⟨n, hn⟩ : ∃ n, n = numL p := ⟨_, rfl⟩
  obtain ⟨k, hk⟩ : ∃ k, k = numL q := ⟨_, rfl⟩
  rw [← hn] at hb HP ⊢
  rw [← hk] at hb2 HR h0 ⊢
  clear hn hk
  have v0 : ((k : Int) == 0) = false := by rw [beq_eq_false_iff_ne]; omega
  have v1 : IntKind.i64.wrap ((n : Int) * 8) = (n : Int) * 8 := IntWalk.i64_in _ (by omega)
  have v2 : IntKind.i64.wrap ((n : Int) * 8 + (k : Int)) = 8 * (n : Int) + (k : Int) := by rw [IntWalk.i64_in _ (by omega)]; omega

  go_enter Try.func67, Try.ntmps67
  go_wp2_with (first | (go_at_call 55; (refine (HC.out ).mono ?_; rintro e w1 ⟨rfl, hb1⟩; have hs1 := hb1.size)) | (go_at_call 57; ((with_reducible refine (HP.out _).mono ?_); rintro e w2 ⟨rfl, hb2⟩; have hs2 := hb2.size)) | (go_at_call 57; ((with_reducible refine (HR.out _).mono ?_); rintro e w2 ⟨rfl, hb2⟩; have hs2 := hb2.size)))
  go_ret2
  exact ⟨rfl, (by repeat (first | exact Below.refl _ _ | assumption | refine Below.drew ?_ | refine below_drewN ?_ _ | refine Below.alloc ?_ (by first | omega | (simp; done) | (simp; omega)) _ | refine Below.setCell ?_ (by first | omega | (simp; done) | (simp; omega)) _ | refine Below.trans ?_ (Below.mono (by assumption) (by first | omega | (simp; done) | (simp; omega)))))⟩

theorem parseSteps_any (l : List UInt8) (m : Int) (hl : l.length ≤ 1048576) (w : World) (hm : w.cell? ⟨0, 0, none⟩ = some (.int .i64 m)) :
    Calls Try.prog 67 #[.string (bs l)] w fun e w' => e = .returned (.tuple #[.int .i64 (valP l), .bool (okP l)]) ∧ Below w.heap.size w w' := by
  by_cases h : (43 : UInt8) ∈ l
  · obtain ⟨p, q, rfl, hp⟩ := spl_cut 43 l h
    cases ho : okN p 160
    · exact steps_first_noC p q hp ho m hl w hm
    · cases hr : okN q 7
      · exact steps_rest_noC p q hp ho hr m hl w hm
      · by_cases h0 : numL q = 0
        · exact steps_rest_zeroC p q hp ho hr h0 m hl w hm
        · exact steps_bothC p q hp ho hr h0 m hl w hm
  · cases ho : okN l 160
    · exact steps_whole_noC l h ho m hl w hm
    · exact steps_whole_yesC l h ho m hl w hm

end Go.Proofs.Ytagfleajkalgiaa
