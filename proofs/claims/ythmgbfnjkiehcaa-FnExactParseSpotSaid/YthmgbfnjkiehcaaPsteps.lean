/- The program's reading of a number of steps, and of eighths. No conditions but those written in each theorem. -/
import Derived.Test.YthmgbfnjkiehcaaPnum
import Derived.Deep.RegionHeld3
import Derived.Deep.DrawnRows
import Derived.IntWalk
namespace Go.Proofs.Ythmgbfnjkiehcaa
open Go.RowKit


attribute [local go_sem ↓] Go.wp_at_zero Go.wp_at_succ

theorem okN_nil (most : Nat) : okN [] most = false := rfl
theorem okN_zero {l : List UInt8} {most : Nat} (h1 : l.length ≠ 1) (h0 : l[0]? = some 48) : okN l most = false := by
  cases e : okN l most
  · rfl
  · rcases (canL_iff.1 (okN_iff.1 e).1).2.2 with h | h
    · exact absurd h h1
    · exact absurd h0 h
set_option maxHeartbeats 100000 in
theorem parseNumber_nil (most : Nat) (w : World) :
    Calls Try.prog 64 #[.string (bs []), .int .i64 most] w fun e w' => e = .returned (.tuple #[.int .i64 0, .bool false]) ∧ Below w.heap.size w w' := by
  have e1 : (bs []).toList = [] := bs_toL []
  go_enter Try.func64, Try.ntmps64
  go_wp2
  go_ret2
  exact ⟨rfl, (by repeat (first | exact Below.refl _ _ | assumption | refine Below.drew ?_ | refine below_drewN ?_ _ | refine Below.alloc ?_ (by first | omega | (simp; done) | (simp; omega)) _ | refine Below.setCell ?_ (by first | omega | (simp; done) | (simp; omega)) _ | refine Below.trans ?_ (Below.mono (by assumption) (by first | omega | (simp; done) | (simp; omega)))))⟩
set_option maxHeartbeats 100000 in
theorem parseNumber_zero (l : List UInt8) (most : Nat) (h1 : 1 < l.length) (h0 : l[0]? = some 48) (hl : l.length ≤ 1048576) (w : World) :
    Calls Try.prog 64 #[.string (bs l), .int .i64 most] w fun e w' => e = .returned (.tuple #[.int .i64 0, .bool false]) ∧ Below w.heap.size w w' := by
  have hpos : 0 < l.length := by omega
  have hne : l ≠ [] := List.length_pos_iff.1 hpos
  have hz := bs_size l
  have e1 := bs_no hne
  have e2 := bs_noB hne
  have e3 : 1 < (l.length : Int) := by omega
  have e4 : ∀ h : 0 < (bs l).size, ((((bs l)[0]'h).toNat : Int) == 48) = true := by
    intro h
    rw [List.getElem?_eq_getElem hpos] at h0
    have := Option.some.inj h0
    rw [bs_get h hpos, this]
    rfl
  clear h0
  go_enter Try.func64, Try.ntmps64
  go_wp2
  go_ret2
  exact ⟨rfl, (by repeat (first | exact Below.refl _ _ | assumption | refine Below.drew ?_ | refine below_drewN ?_ _ | refine Below.alloc ?_ (by first | omega | (simp; done) | (simp; omega)) _ | refine Below.setCell ?_ (by first | omega | (simp; done) | (simp; omega)) _ | refine Below.trans ?_ (Below.mono (by assumption) (by first | omega | (simp; done) | (simp; omega)))))⟩
theorem parseNumber_any (l : List UInt8) (most : Nat) (hm : most ≤ 999) (hl : l.length ≤ 1048576) (w : World) :
    Calls Try.prog 64 #[.string (bs l), .int .i64 most] w fun e w' => e = .returned (.tuple #[.int .i64 (valN l most), .bool (okN l most)]) ∧ Below w.heap.size w w' := by
  by_cases hne : l = []
  · subst hne
    exact parseNumber_nil most w
  by_cases h0 : l.length = 1 ∨ l[0]? ≠ some 48
  · exact parseNumber_loop l most hm hl hne h0 w
  · have hpos : 0 < l.length := List.length_pos_iff.2 hne
    have h1 : l.length ≠ 1 := fun e => h0 (Or.inl e)
    have h2 : l[0]? = some 48 := by
      by_cases e : l[0]? = some 48
      · exact e
      · exact absurd (Or.inr e) h0
    have hno := okN_zero (most := most) h1 h2
    rw [valN_no hno, hno]
    exact parseNumber_zero l most (by omega) h2 hl w

/-- The program's reading of eighths: the value, 0 if there is none. -/
def valP (l : List UInt8) : Int := if okP l = true then readP l else 0
theorem valP_yes {l : List UInt8} (h : okP l = true) : valP l = readP l := by unfold valP; rw [if_pos h]
theorem valP_no {l : List UInt8} (h : okP l = false) : valP l = 0 := by unfold valP; rw [h]; rfl

set_option maxHeartbeats 100000 in
theorem steps_whole_noC (l : List UInt8) (h : (43 : UInt8) ∉ l) (ho : okN l 160 = false) (m : Int) (hl : (l).length ≤ 1048576) (w : World) (hm : w.cell? ⟨0, 0, none⟩ = some (.int .i64 m)) :
    Calls Try.prog 59 #[.string (bs (l))] w fun e w' => e = .returned (.tuple #[.int .i64 (valP (l)), .bool (okP (l))]) ∧ Below w.heap.size w w' := by
  have HC := Lib.hid (cut_miss l 43 m (by omega) h w hm)
  have xHP : ∀ W : World, Calls Try.prog 64 #[.string (bs l), .int .i64 160] W fun e w' => e = .returned (.tuple #[.int .i64 (valN l 160), .bool (okN l 160)]) ∧ Below W.heap.size W w' := fun W => parseNumber_any l 160 (by omega) hl W
  rw [valN_no ho, ho] at xHP
  have HP := Lib.hid xHP
  clear xHP
  have hk := steps_whole_no h ho
  rw [valP_no hk, hk]
  clear hk

  go_enter Try.func59, Try.ntmps59
  go_wp2_with (first | (go_at_call 58; (refine (HC.out ).mono ?_; rintro e w1 ⟨rfl, hb1⟩; have hs1 := hb1.size)) | (go_at_call 64; ((with_reducible refine (HP.out _).mono ?_); rintro e w2 ⟨rfl, hb2⟩; have hs2 := hb2.size)) | (go_at_call 64; ((with_reducible refine (HR.out _).mono ?_); rintro e w2 ⟨rfl, hb2⟩; have hs2 := hb2.size)))
  go_ret2
  exact ⟨rfl, (by repeat (first | exact Below.refl _ _ | assumption | refine Below.drew ?_ | refine below_drewN ?_ _ | refine Below.alloc ?_ (by first | omega | (simp; done) | (simp; omega)) _ | refine Below.setCell ?_ (by first | omega | (simp; done) | (simp; omega)) _ | refine Below.trans ?_ (Below.mono (by assumption) (by first | omega | (simp; done) | (simp; omega)))))⟩

set_option maxHeartbeats 100000 in
theorem steps_whole_yesC (l : List UInt8) (h : (43 : UInt8) ∉ l) (ho : okN l 160 = true) (m : Int) (hl : (l).length ≤ 1048576) (w : World) (hm : w.cell? ⟨0, 0, none⟩ = some (.int .i64 m)) :
    Calls Try.prog 59 #[.string (bs (l))] w fun e w' => e = .returned (.tuple #[.int .i64 (valP (l)), .bool (okP (l))]) ∧ Below w.heap.size w w' := by
  have HC := Lib.hid (cut_miss l 43 m (by omega) h w hm)
  have xHP : ∀ W : World, Calls Try.prog 64 #[.string (bs l), .int .i64 160] W fun e w' => e = .returned (.tuple #[.int .i64 (valN l 160), .bool (okN l 160)]) ∧ Below W.heap.size W w' := fun W => parseNumber_any l 160 (by omega) hl W
  rw [valN_yes ho, ho] at xHP
  have HP := Lib.hid xHP
  clear xHP
  obtain ⟨hk, hv⟩ := steps_whole h ho
  rw [valP_yes hk, hk, hv]
  clear hk hv
  have hb := (okN_iff.1 ho).2
  obtain ⟨n, hn⟩ : ∃ n, n = numL l := ⟨_, rfl⟩
  rw [← hn] at hb HP ⊢
  clear hn
  have v1 : IntKind.i64.wrap ((n : Int) * 8) = 8 * (n : Int) := by rw [IntWalk.i64_in _ (by omega)]; omega

  go_enter Try.func59, Try.ntmps59
  go_wp2_with (first | (go_at_call 58; (refine (HC.out ).mono ?_; rintro e w1 ⟨rfl, hb1⟩; have hs1 := hb1.size)) | (go_at_call 64; ((with_reducible refine (HP.out _).mono ?_); rintro e w2 ⟨rfl, hb2⟩; have hs2 := hb2.size)) | (go_at_call 64; ((with_reducible refine (HR.out _).mono ?_); rintro e w2 ⟨rfl, hb2⟩; have hs2 := hb2.size)))
  go_ret2
  exact ⟨rfl, (by repeat (first | exact Below.refl _ _ | assumption | refine Below.drew ?_ | refine below_drewN ?_ _ | refine Below.alloc ?_ (by first | omega | (simp; done) | (simp; omega)) _ | refine Below.setCell ?_ (by first | omega | (simp; done) | (simp; omega)) _ | refine Below.trans ?_ (Below.mono (by assumption) (by first | omega | (simp; done) | (simp; omega)))))⟩

set_option maxHeartbeats 100000 in
theorem steps_first_noC (p q : List UInt8) (h : (43 : UInt8) ∉ p) (ho : okN p 160 = false) (m : Int) (hl : (p ++ 43 :: q).length ≤ 1048576) (w : World) (hm : w.cell? ⟨0, 0, none⟩ = some (.int .i64 m)) :
    Calls Try.prog 59 #[.string (bs (p ++ 43 :: q))] w fun e w' => e = .returned (.tuple #[.int .i64 (valP (p ++ 43 :: q)), .bool (okP (p ++ 43 :: q))]) ∧ Below w.heap.size w w' := by
  have HC := Lib.hid (cut_hit p q 43 m (by omega) h w hm)
  have xHP : ∀ W : World, Calls Try.prog 64 #[.string (bs p), .int .i64 160] W fun e w' => e = .returned (.tuple #[.int .i64 (valN p 160), .bool (okN p 160)]) ∧ Below W.heap.size W w' := fun W => parseNumber_any p 160 (by omega) (by simp at hl; omega) W
  rw [valN_no ho, ho] at xHP
  have HP := Lib.hid xHP
  clear xHP
  have hk := steps_first_no (q := q) h ho
  rw [valP_no hk, hk]
  clear hk

  go_enter Try.func59, Try.ntmps59
  go_wp2_with (first | (go_at_call 58; (refine (HC.out ).mono ?_; rintro e w1 ⟨rfl, hb1⟩; have hs1 := hb1.size)) | (go_at_call 64; ((with_reducible refine (HP.out _).mono ?_); rintro e w2 ⟨rfl, hb2⟩; have hs2 := hb2.size)) | (go_at_call 64; ((with_reducible refine (HR.out _).mono ?_); rintro e w2 ⟨rfl, hb2⟩; have hs2 := hb2.size)))
  go_ret2
  exact ⟨rfl, (by repeat (first | exact Below.refl _ _ | assumption | refine Below.drew ?_ | refine below_drewN ?_ _ | refine Below.alloc ?_ (by first | omega | (simp; done) | (simp; omega)) _ | refine Below.setCell ?_ (by first | omega | (simp; done) | (simp; omega)) _ | refine Below.trans ?_ (Below.mono (by assumption) (by first | omega | (simp; done) | (simp; omega)))))⟩

set_option maxHeartbeats 100000 in
theorem steps_rest_noC (p q : List UInt8) (h : (43 : UInt8) ∉ p) (ho : okN p 160 = true) (hr : okN q 7 = false) (m : Int) (hl : (p ++ 43 :: q).length ≤ 1048576) (w : World) (hm : w.cell? ⟨0, 0, none⟩ = some (.int .i64 m)) :
    Calls Try.prog 59 #[.string (bs (p ++ 43 :: q))] w fun e w' => e = .returned (.tuple #[.int .i64 (valP (p ++ 43 :: q)), .bool (okP (p ++ 43 :: q))]) ∧ Below w.heap.size w w' := by
  have HC := Lib.hid (cut_hit p q 43 m (by omega) h w hm)
  have xHP : ∀ W : World, Calls Try.prog 64 #[.string (bs p), .int .i64 160] W fun e w' => e = .returned (.tuple #[.int .i64 (valN p 160), .bool (okN p 160)]) ∧ Below W.heap.size W w' := fun W => parseNumber_any p 160 (by omega) (by simp at hl; omega) W
  rw [valN_yes ho, ho] at xHP
  have HP := Lib.hid xHP
  clear xHP
  have xHR : ∀ W : World, Calls Try.prog 64 #[.string (bs q), .int .i64 7] W fun e w' => e = .returned (.tuple #[.int .i64 (valN q 7), .bool (okN q 7)]) ∧ Below W.heap.size W w' := fun W => parseNumber_any q 7 (by omega) (by simp at hl; omega) W
  rw [valN_no hr, hr] at xHR
  have HR := Lib.hid xHR
  clear xHR
  have hk := steps_rest_no h (Or.inl hr)
  rw [valP_no hk, hk]
  clear hk
  have hb := (okN_iff.1 ho).2

  go_enter Try.func59, Try.ntmps59
  go_wp2_with (first | (go_at_call 58; (refine (HC.out ).mono ?_; rintro e w1 ⟨rfl, hb1⟩; have hs1 := hb1.size)) | (go_at_call 64; ((with_reducible refine (HP.out _).mono ?_); rintro e w2 ⟨rfl, hb2⟩; have hs2 := hb2.size)) | (go_at_call 64; ((with_reducible refine (HR.out _).mono ?_); rintro e w2 ⟨rfl, hb2⟩; have hs2 := hb2.size)))
  go_ret2
  exact ⟨rfl, (by repeat (first | exact Below.refl _ _ | assumption | refine Below.drew ?_ | refine below_drewN ?_ _ | refine Below.alloc ?_ (by first | omega | (simp; done) | (simp; omega)) _ | refine Below.setCell ?_ (by first | omega | (simp; done) | (simp; omega)) _ | refine Below.trans ?_ (Below.mono (by assumption) (by first | omega | (simp; done) | (simp; omega)))))⟩

set_option maxHeartbeats 100000 in
theorem steps_rest_zeroC (p q : List UInt8) (h : (43 : UInt8) ∉ p) (ho : okN p 160 = true) (hr : okN q 7 = true) (h0 : numL q = 0) (m : Int) (hl : (p ++ 43 :: q).length ≤ 1048576) (w : World) (hm : w.cell? ⟨0, 0, none⟩ = some (.int .i64 m)) :
    Calls Try.prog 59 #[.string (bs (p ++ 43 :: q))] w fun e w' => e = .returned (.tuple #[.int .i64 (valP (p ++ 43 :: q)), .bool (okP (p ++ 43 :: q))]) ∧ Below w.heap.size w w' := by
  have HC := Lib.hid (cut_hit p q 43 m (by omega) h w hm)
  have xHP : ∀ W : World, Calls Try.prog 64 #[.string (bs p), .int .i64 160] W fun e w' => e = .returned (.tuple #[.int .i64 (valN p 160), .bool (okN p 160)]) ∧ Below W.heap.size W w' := fun W => parseNumber_any p 160 (by omega) (by simp at hl; omega) W
  rw [valN_yes ho, ho] at xHP
  have HP := Lib.hid xHP
  clear xHP
  have xHR : ∀ W : World, Calls Try.prog 64 #[.string (bs q), .int .i64 7] W fun e w' => e = .returned (.tuple #[.int .i64 (valN q 7), .bool (okN q 7)]) ∧ Below W.heap.size W w' := fun W => parseNumber_any q 7 (by omega) (by simp at hl; omega) W
  rw [valN_yes hr, hr] at xHR
  have HR := Lib.hid xHR
  clear xHR
  have hk := steps_rest_no h (Or.inr h0)
  rw [valP_no hk, hk]
  clear hk
  have hb := (okN_iff.1 ho).2
  rw [h0] at HR

  go_enter Try.func59, Try.ntmps59
  go_wp2_with (first | (go_at_call 58; (refine (HC.out ).mono ?_; rintro e w1 ⟨rfl, hb1⟩; have hs1 := hb1.size)) | (go_at_call 64; ((with_reducible refine (HP.out _).mono ?_); rintro e w2 ⟨rfl, hb2⟩; have hs2 := hb2.size)) | (go_at_call 64; ((with_reducible refine (HR.out _).mono ?_); rintro e w2 ⟨rfl, hb2⟩; have hs2 := hb2.size)))
  go_ret2
  exact ⟨rfl, (by repeat (first | exact Below.refl _ _ | assumption | refine Below.drew ?_ | refine below_drewN ?_ _ | refine Below.alloc ?_ (by first | omega | (simp; done) | (simp; omega)) _ | refine Below.setCell ?_ (by first | omega | (simp; done) | (simp; omega)) _ | refine Below.trans ?_ (Below.mono (by assumption) (by first | omega | (simp; done) | (simp; omega)))))⟩

set_option maxHeartbeats 100000 in
theorem steps_bothC (p q : List UInt8) (h : (43 : UInt8) ∉ p) (ho : okN p 160 = true) (hr : okN q 7 = true) (h0 : numL q ≠ 0) (m : Int) (hl : (p ++ 43 :: q).length ≤ 1048576) (w : World) (hm : w.cell? ⟨0, 0, none⟩ = some (.int .i64 m)) :
    Calls Try.prog 59 #[.string (bs (p ++ 43 :: q))] w fun e w' => e = .returned (.tuple #[.int .i64 (valP (p ++ 43 :: q)), .bool (okP (p ++ 43 :: q))]) ∧ Below w.heap.size w w' := by
  have HC := Lib.hid (cut_hit p q 43 m (by omega) h w hm)
  have xHP : ∀ W : World, Calls Try.prog 64 #[.string (bs p), .int .i64 160] W fun e w' => e = .returned (.tuple #[.int .i64 (valN p 160), .bool (okN p 160)]) ∧ Below W.heap.size W w' := fun W => parseNumber_any p 160 (by omega) (by simp at hl; omega) W
  rw [valN_yes ho, ho] at xHP
  have HP := Lib.hid xHP
  clear xHP
  have xHR : ∀ W : World, Calls Try.prog 64 #[.string (bs q), .int .i64 7] W fun e w' => e = .returned (.tuple #[.int .i64 (valN q 7), .bool (okN q 7)]) ∧ Below W.heap.size W w' := fun W => parseNumber_any q 7 (by omega) (by simp at hl; omega) W
  rw [valN_yes hr, hr] at xHR
  have HR := Lib.hid xHR
  clear xHR
  obtain ⟨hk, hv⟩ := steps_both h ho hr h0
  rw [valP_yes hk, hk, hv]
  clear hk hv
  have hb := (okN_iff.1 ho).2
  have hb2 := (okN_iff.1 hr).2
  obtain ⟨n, hn⟩ : ∃ n, n = numL p := ⟨_, rfl⟩
  obtain ⟨k, hk⟩ : ∃ k, k = numL q := ⟨_, rfl⟩
  rw [← hn] at hb HP ⊢
  rw [← hk] at hb2 HR h0 ⊢
  clear hn hk
  have v0 : ((k : Int) == 0) = false := by rw [beq_eq_false_iff_ne]; omega
  have v1 : IntKind.i64.wrap ((n : Int) * 8) = (n : Int) * 8 := IntWalk.i64_in _ (by omega)
  have v2 : IntKind.i64.wrap ((n : Int) * 8 + (k : Int)) = 8 * (n : Int) + (k : Int) := by rw [IntWalk.i64_in _ (by omega)]; omega

  go_enter Try.func59, Try.ntmps59
  go_wp2_with (first | (go_at_call 58; (refine (HC.out ).mono ?_; rintro e w1 ⟨rfl, hb1⟩; have hs1 := hb1.size)) | (go_at_call 64; ((with_reducible refine (HP.out _).mono ?_); rintro e w2 ⟨rfl, hb2⟩; have hs2 := hb2.size)) | (go_at_call 64; ((with_reducible refine (HR.out _).mono ?_); rintro e w2 ⟨rfl, hb2⟩; have hs2 := hb2.size)))
  go_ret2
  exact ⟨rfl, (by repeat (first | exact Below.refl _ _ | assumption | refine Below.drew ?_ | refine below_drewN ?_ _ | refine Below.alloc ?_ (by first | omega | (simp; done) | (simp; omega)) _ | refine Below.setCell ?_ (by first | omega | (simp; done) | (simp; omega)) _ | refine Below.trans ?_ (Below.mono (by assumption) (by first | omega | (simp; done) | (simp; omega)))))⟩

theorem parseSteps_any (l : List UInt8) (m : Int) (hl : l.length ≤ 1048576) (w : World) (hm : w.cell? ⟨0, 0, none⟩ = some (.int .i64 m)) :
    Calls Try.prog 59 #[.string (bs l)] w fun e w' => e = .returned (.tuple #[.int .i64 (valP l), .bool (okP l)]) ∧ Below w.heap.size w w' := by
  by_cases h : (43 : UInt8) ∈ l
  · obtain ⟨p, q, rfl, hp⟩ := spl_cut 43 l h
    cases ho : okN p 160
    · exact steps_first_noC p q hp ho m hl w hm
    · cases hr : okN q 7
      · exact steps_rest_noC p q hp ho hr m hl w hm
      · by_cases h0 : numL q = 0
        · exact steps_rest_zeroC p q hp ho hr h0 m hl w hm
        · exact steps_bothC p q hp ho hr h0 m hl w hm
  · cases ho : okN l 160
    · exact steps_whole_noC l h ho m hl w hm
    · exact steps_whole_yesC l h ho m hl w hm

end Go.Proofs.Ythmgbfnjkiehcaa
