/- The program's reading of the text of a spot. No conditions but those written in each theorem. -/
import Derived.Test.YtagfleajkalgiaaStSteps
import Derived.Test.YtagfleajkalgiaaStIf
import Derived.Deep.RegionHeld3
import Derived.Deep.DrawnRows
import Derived.IntWalk
namespace Go.Proofs.Ytagfleajkalgiaa
open Go.RowKit


attribute [local go_sem ↓] Go.wp_at_zero Go.wp_at_succ
/-- Is the text that of a spot? -/
def okS (l : List UInt8) : Bool := (Lib.cut l [44]).2.2 && (okP (Lib.cut l [44]).1 && okP (Lib.cut l [44]).2.1 && onField (readP (Lib.cut l [44]).1) (readP (Lib.cut l [44]).2.1))
def spX (l : List UInt8) : Int := guardI (okS l) (readP (Lib.cut l [44]).1)
def spY (l : List UInt8) : Int := guardI (okS l) (readP (Lib.cut l [44]).2.1)
theorem okS_none {l : List UInt8} (h : (44 : UInt8) ∉ l) : okS l = false := by unfold okS; rw [cut_none h]; rfl
theorem okS_some {p q : List UInt8} (h : (44 : UInt8) ∉ p) : okS (p ++ 44 :: q) = (okP p && okP q && onField (readP p) (readP q)) := by unfold okS; rw [cut_some h]; rfl
/-- What a reading answers: the spot, and whether there is one. -/
def ansS (l : List UInt8) : Value := .tuple #[.agg #[.int .i64 (spX l), .int .i64 (spY l)], .bool (okS l)]
def noS : Value := .tuple #[.agg #[.int .i64 0, .int .i64 0], .bool false]
theorem ans_no {l : List UInt8} (h : okS l = false) : ansS l = noS := by
  unfold ansS spX spY noS
  rw [h]
  rfl
theorem ans_yes {p q : List UInt8} (hp : (44 : UInt8) ∉ p) (h : okS (p ++ 44 :: q) = true) : ansS (p ++ 44 :: q) = .tuple #[.agg #[.int .i64 (readP p), .int .i64 (readP q)], .bool true] := by
  unfold ansS spX spY
  rw [h, cut_some hp]
  rfl

set_option maxHeartbeats 1000000 in
theorem parseSpot_miss (l : List UInt8) (h : (44 : UInt8) ∉ l) (m : Int) (hl : l.length ≤ 1048576) {w : World} (hm : w.cell? ⟨0, 0, none⟩ = some (.int .i64 m)) :
    Calls Try.prog 56 #[.string (bs l)] w fun e w' => e = .returned noS ∧ Below w.heap.size w w' := by
  have hz0 := World.block_lt_of_cell? w _ hm
  have hct := fun (W : World) (hb : Below w.heap.size w W) => cut_miss l 44 m (by omega) h W ((hb.cell (p := ⟨0, 0, none⟩) hz0).trans hm)
  have HC := Lib.hid hct
  clear hct hm
  obtain ⟨q1, q2, q3, q4, q5, q6, q7⟩ := nadd
  go_enter Try.func56, Try.ntmps56
  go_wp2_with (first | (go_at_call 55; ((with_reducible refine (HC.out _ ?_).mono ?_); (focus exact (by repeat (first | exact Below.refl _ _ | assumption | refine Below.drew ?_ | refine below_drewN ?_ _ | refine Below.alloc ?_ (by first | omega | (simp; done) | (simp; omega)) _ | refine Below.setCell ?_ (by first | omega | (simp; done) | (simp; omega)) _ | refine Below.trans ?_ (Below.mono (by assumption) (by first | omega | (simp; done) | (simp; omega)))))); rintro e w1 ⟨rfl, hb1⟩; have hs1 := hb1.size; (try simp at hs1); obtain ⟨hcn, hfn, hln⟩ := bcellN (w.heap.size + 1) hb1 (by first | omega | (simp; done) | (simp; omega)); have hz0 : w.heap.size < w1.heap.size := (by omega); (first | have hk4 := call_facts hl3 hb1 (by simp) | skip); (first | have hk3 := call_facts hl2 hb1 (by simp) | skip); (first | have hk2 := call_facts hl1 hb1 (by simp) | skip); have hk1 := call_facts (fun b h => h) hb1 (Nat.le_refl _); (first | have hl4 := hk4.1 | skip); (first | have hl3 := hk3.1 | skip); (first | have hl2 := hk2.1 | skip); have hl1 := hk1.1)))
  first | exact bodyPost_ret (v := .tuple #[.agg #[.int .i64 0, .int .i64 0], .bool false]) (by simp [results, Try.results56, go_sem, *]) rfl ⟨rfl, (by repeat (first | exact Below.refl _ _ | assumption | refine Below.drew ?_ | refine below_drewN ?_ _ | refine Below.alloc ?_ (by first | omega | (simp; done) | (simp; omega)) _ | refine Below.setCell ?_ (by first | omega | (simp; done) | (simp; omega)) _ | refine Below.trans ?_ (Below.mono (by assumption) (by first | omega | (simp; done) | (simp; omega)))))⟩

set_option maxHeartbeats 1000000 in
theorem parseSpot_left (p q : List UInt8) (h : (44 : UInt8) ∉ p) (h1 : okP p = false) (m : Int) (hl : (p ++ 44 :: q).length ≤ 1048576) {w : World} (hm : w.cell? ⟨0, 0, none⟩ = some (.int .i64 m)) :
    Calls Try.prog 56 #[.string (bs (p ++ 44 :: q))] w fun e w' => e = .returned (.tuple #[.agg #[.int .i64 0, .int .i64 0], .bool false]) ∧ Below w.heap.size w w' := by
  have hz0 := World.block_lt_of_cell? w _ hm
  have hct := fun (W : World) (hb : Below w.heap.size w W) => cut_hit p q 44 m (by omega) h W ((hb.cell (p := ⟨0, 0, none⟩) hz0).trans hm)
  have hpl : p.length ≤ 1048576 := by simp at hl; omega
  have hql : q.length ≤ 1048576 := by simp at hl; omega
  have hp1 := fun (W : World) (hb : Below w.heap.size w W) => parseSteps_any p m hpl W ((hb.cell (p := ⟨0, 0, none⟩) hz0).trans hm)
  have hq1 := fun (W : World) (hb : Below w.heap.size w W) => parseSteps_any q m hql W ((hb.cell (p := ⟨0, 0, none⟩) hz0).trans hm)
  rw [valP_no h1, h1] at hp1
  have HSO := Lib.hid (fun W => spotOf_any 0 0 W)
  have HC := Lib.hid hct
  have HP := Lib.hid hp1
  have HQ := Lib.hid hq1
  clear hct hm hp1 hq1 hl hpl hql
  obtain ⟨q1, q2, q3, q4, q5, q6, q7⟩ := nadd
  go_enter Try.func56, Try.ntmps56
  go_wp2_with (first | (go_at_call 55; ((with_reducible refine (HC.out _ ?_).mono ?_); (focus exact (by repeat (first | exact Below.refl _ _ | assumption | refine Below.drew ?_ | refine below_drewN ?_ _ | refine Below.alloc ?_ (by first | omega | (simp; done) | (simp; omega)) _ | refine Below.setCell ?_ (by first | omega | (simp; done) | (simp; omega)) _ | refine Below.trans ?_ (Below.mono (by assumption) (by first | omega | (simp; done) | (simp; omega)))))); rintro e w1 ⟨rfl, hb1⟩; have hs1 := hb1.size; (try simp at hs1); obtain ⟨hcn, hfn, hln⟩ := bcellN (w.heap.size + 1) hb1 (by first | omega | (simp; done) | (simp; omega)); have hz0 : w.heap.size < w1.heap.size := (by omega); (first | have hk4 := call_facts hl3 hb1 (by simp) | skip); (first | have hk3 := call_facts hl2 hb1 (by simp) | skip); (first | have hk2 := call_facts hl1 hb1 (by simp) | skip); have hk1 := call_facts (fun b h => h) hb1 (Nat.le_refl _); (first | have hl4 := hk4.1 | skip); (first | have hl3 := hk3.1 | skip); (first | have hl2 := hk2.1 | skip); have hl1 := hk1.1)) | (go_at_call 67; ((with_reducible refine (HP.out _ ?_).mono ?_); (focus exact (by repeat (first | exact Below.refl _ _ | assumption | refine Below.drew ?_ | refine below_drewN ?_ _ | refine Below.alloc ?_ (by first | omega | (simp; done) | (simp; omega)) _ | refine Below.setCell ?_ (by first | omega | (simp; done) | (simp; omega)) _ | refine Below.trans ?_ (Below.mono (by assumption) (by first | omega | (simp; done) | (simp; omega)))))); rintro e w1 ⟨rfl, hb1⟩; have hs1 := hb1.size; (try simp at hs1); obtain ⟨hcn, hfn, hln⟩ := bcellN (w.heap.size + 1) hb1 (by first | omega | (simp; done) | (simp; omega)); have hz0 : w.heap.size < w1.heap.size := (by omega); (first | have hk4 := call_facts hl3 hb1 (by simp) | skip); (first | have hk3 := call_facts hl2 hb1 (by simp) | skip); (first | have hk2 := call_facts hl1 hb1 (by simp) | skip); have hk1 := call_facts (fun b h => h) hb1 (Nat.le_refl _); (first | have hl4 := hk4.1 | skip); (first | have hl3 := hk3.1 | skip); (first | have hl2 := hk2.1 | skip); have hl1 := hk1.1)) | (go_at_call 67; ((with_reducible refine (HQ.out _ ?_).mono ?_); (focus exact (by repeat (first | exact Below.refl _ _ | assumption | refine Below.drew ?_ | refine below_drewN ?_ _ | refine Below.alloc ?_ (by first | omega | (simp; done) | (simp; omega)) _ | refine Below.setCell ?_ (by first | omega | (simp; done) | (simp; omega)) _ | refine Below.trans ?_ (Below.mono (by assumption) (by first | omega | (simp; done) | (simp; omega)))))); rintro e w1 ⟨rfl, hb1⟩; have hs1 := hb1.size; (try simp at hs1); obtain ⟨hcn, hfn, hln⟩ := bcellN (w.heap.size + 1) hb1 (by first | omega | (simp; done) | (simp; omega)); have hz0 : w.heap.size < w1.heap.size := (by omega); (first | have hk4 := call_facts hl3 hb1 (by simp) | skip); (first | have hk3 := call_facts hl2 hb1 (by simp) | skip); (first | have hk2 := call_facts hl1 hb1 (by simp) | skip); have hk1 := call_facts (fun b h => h) hb1 (Nat.le_refl _); (first | have hl4 := hk4.1 | skip); (first | have hl3 := hk3.1 | skip); (first | have hl2 := hk2.1 | skip); have hl1 := hk1.1)) | (go_at_call 68; (refine (HSO.out _).mono ?_; rintro e w1 ⟨rfl, hb1⟩; have hs1 := hb1.size; (try simp at hs1); obtain ⟨hcn, hfn, hln⟩ := bcellN (w.heap.size + 1) hb1 (by first | omega | (simp; done) | (simp; omega)); have hz0 : w.heap.size < w1.heap.size := (by omega); (first | have hk4 := call_facts hl3 hb1 (by simp) | skip); (first | have hk3 := call_facts hl2 hb1 (by simp) | skip); (first | have hk2 := call_facts hl1 hb1 (by simp) | skip); have hk1 := call_facts (fun b h => h) hb1 (Nat.le_refl _); (first | have hl4 := hk4.1 | skip); (first | have hl3 := hk3.1 | skip); (first | have hl2 := hk2.1 | skip); have hl1 := hk1.1)))
  first | exact bodyPost_ret (v := .tuple #[.agg #[.int .i64 0, .int .i64 0], .bool false]) (by simp [results, Try.results56, go_sem, *]) rfl ⟨rfl, (by repeat (first | exact Below.refl _ _ | assumption | refine Below.drew ?_ | refine below_drewN ?_ _ | refine Below.alloc ?_ (by first | omega | (simp; done) | (simp; omega)) _ | refine Below.setCell ?_ (by first | omega | (simp; done) | (simp; omega)) _ | refine Below.trans ?_ (Below.mono (by assumption) (by first | omega | (simp; done) | (simp; omega)))))⟩

set_option maxHeartbeats 1000000 in
theorem parseSpot_right (p q : List UInt8) (h : (44 : UInt8) ∉ p) (h1 : okP p = true) (h2 : okP q = false) (m : Int) (hl : (p ++ 44 :: q).length ≤ 1048576) {w : World} (hm : w.cell? ⟨0, 0, none⟩ = some (.int .i64 m)) :
    Calls Try.prog 56 #[.string (bs (p ++ 44 :: q))] w fun e w' => e = .returned (.tuple #[.agg #[.int .i64 0, .int .i64 0], .bool false]) ∧ Below w.heap.size w w' := by
  have hz0 := World.block_lt_of_cell? w _ hm
  have hct := fun (W : World) (hb : Below w.heap.size w W) => cut_hit p q 44 m (by omega) h W ((hb.cell (p := ⟨0, 0, none⟩) hz0).trans hm)
  have hpl : p.length ≤ 1048576 := by simp at hl; omega
  have hql : q.length ≤ 1048576 := by simp at hl; omega
  have hp1 := fun (W : World) (hb : Below w.heap.size w W) => parseSteps_any p m hpl W ((hb.cell (p := ⟨0, 0, none⟩) hz0).trans hm)
  have hq1 := fun (W : World) (hb : Below w.heap.size w W) => parseSteps_any q m hql W ((hb.cell (p := ⟨0, 0, none⟩) hz0).trans hm)
  rw [valP_yes h1, h1] at hp1
  rw [valP_no h2, h2] at hq1
  obtain ⟨n, hn⟩ : ∃ n, n = readP p := ⟨_, rfl⟩
  rw [← hn] at hp1
  clear hn
  have HSO := Lib.hid (fun W => spotOf_any 0 0 W)
  have HC := Lib.hid hct
  have HP := Lib.hid hp1
  have HQ := Lib.hid hq1
  clear hct hm hp1 hq1 hl hpl hql
  obtain ⟨q1, q2, q3, q4, q5, q6, q7⟩ := nadd
  go_enter Try.func56, Try.ntmps56
  go_wp2_with (first | (go_at_call 55; ((with_reducible refine (HC.out _ ?_).mono ?_); (focus exact (by repeat (first | exact Below.refl _ _ | assumption | refine Below.drew ?_ | refine below_drewN ?_ _ | refine Below.alloc ?_ (by first | omega | (simp; done) | (simp; omega)) _ | refine Below.setCell ?_ (by first | omega | (simp; done) | (simp; omega)) _ | refine Below.trans ?_ (Below.mono (by assumption) (by first | omega | (simp; done) | (simp; omega)))))); rintro e w1 ⟨rfl, hb1⟩; have hs1 := hb1.size; (try simp at hs1); obtain ⟨hcn, hfn, hln⟩ := bcellN (w.heap.size + 1) hb1 (by first | omega | (simp; done) | (simp; omega)); have hz0 : w.heap.size < w1.heap.size := (by omega); (first | have hk4 := call_facts hl3 hb1 (by simp) | skip); (first | have hk3 := call_facts hl2 hb1 (by simp) | skip); (first | have hk2 := call_facts hl1 hb1 (by simp) | skip); have hk1 := call_facts (fun b h => h) hb1 (Nat.le_refl _); (first | have hl4 := hk4.1 | skip); (first | have hl3 := hk3.1 | skip); (first | have hl2 := hk2.1 | skip); have hl1 := hk1.1)) | (go_at_call 67; ((with_reducible refine (HP.out _ ?_).mono ?_); (focus exact (by repeat (first | exact Below.refl _ _ | assumption | refine Below.drew ?_ | refine below_drewN ?_ _ | refine Below.alloc ?_ (by first | omega | (simp; done) | (simp; omega)) _ | refine Below.setCell ?_ (by first | omega | (simp; done) | (simp; omega)) _ | refine Below.trans ?_ (Below.mono (by assumption) (by first | omega | (simp; done) | (simp; omega)))))); rintro e w1 ⟨rfl, hb1⟩; have hs1 := hb1.size; (try simp at hs1); obtain ⟨hcn, hfn, hln⟩ := bcellN (w.heap.size + 1) hb1 (by first | omega | (simp; done) | (simp; omega)); have hz0 : w.heap.size < w1.heap.size := (by omega); (first | have hk4 := call_facts hl3 hb1 (by simp) | skip); (first | have hk3 := call_facts hl2 hb1 (by simp) | skip); (first | have hk2 := call_facts hl1 hb1 (by simp) | skip); have hk1 := call_facts (fun b h => h) hb1 (Nat.le_refl _); (first | have hl4 := hk4.1 | skip); (first | have hl3 := hk3.1 | skip); (first | have hl2 := hk2.1 | skip); have hl1 := hk1.1)) | (go_at_call 67; ((with_reducible refine (HQ.out _ ?_).mono ?_); (focus exact (by repeat (first | exact Below.refl _ _ | assumption | refine Below.drew ?_ | refine below_drewN ?_ _ | refine Below.alloc ?_ (by first | omega | (simp; done) | (simp; omega)) _ | refine Below.setCell ?_ (by first | omega | (simp; done) | (simp; omega)) _ | refine Below.trans ?_ (Below.mono (by assumption) (by first | omega | (simp; done) | (simp; omega)))))); rintro e w1 ⟨rfl, hb1⟩; have hs1 := hb1.size; (try simp at hs1); obtain ⟨hcn, hfn, hln⟩ := bcellN (w.heap.size + 1) hb1 (by first | omega | (simp; done) | (simp; omega)); have hz0 : w.heap.size < w1.heap.size := (by omega); (first | have hk4 := call_facts hl3 hb1 (by simp) | skip); (first | have hk3 := call_facts hl2 hb1 (by simp) | skip); (first | have hk2 := call_facts hl1 hb1 (by simp) | skip); have hk1 := call_facts (fun b h => h) hb1 (Nat.le_refl _); (first | have hl4 := hk4.1 | skip); (first | have hl3 := hk3.1 | skip); (first | have hl2 := hk2.1 | skip); have hl1 := hk1.1)) | (go_at_call 68; (refine (HSO.out _).mono ?_; rintro e w1 ⟨rfl, hb1⟩; have hs1 := hb1.size; (try simp at hs1); obtain ⟨hcn, hfn, hln⟩ := bcellN (w.heap.size + 1) hb1 (by first | omega | (simp; done) | (simp; omega)); have hz0 : w.heap.size < w1.heap.size := (by omega); (first | have hk4 := call_facts hl3 hb1 (by simp) | skip); (first | have hk3 := call_facts hl2 hb1 (by simp) | skip); (first | have hk2 := call_facts hl1 hb1 (by simp) | skip); have hk1 := call_facts (fun b h => h) hb1 (Nat.le_refl _); (first | have hl4 := hk4.1 | skip); (first | have hl3 := hk3.1 | skip); (first | have hl2 := hk2.1 | skip); have hl1 := hk1.1)))
  first | exact bodyPost_ret (v := .tuple #[.agg #[.int .i64 0, .int .i64 0], .bool false]) (by simp [results, Try.results56, go_sem, *]) rfl ⟨rfl, (by repeat (first | exact Below.refl _ _ | assumption | refine Below.drew ?_ | refine below_drewN ?_ _ | refine Below.alloc ?_ (by first | omega | (simp; done) | (simp; omega)) _ | refine Below.setCell ?_ (by first | omega | (simp; done) | (simp; omega)) _ | refine Below.trans ?_ (Below.mono (by assumption) (by first | omega | (simp; done) | (simp; omega)))))⟩

set_option maxHeartbeats 1000000 in
theorem parseSpot_off (p q : List UInt8) (h : (44 : UInt8) ∉ p) (h1 : okP p = true) (h2 : okP q = true) (h3 : onField (readP p) (readP q) = false) (m : Int) (hl : (p ++ 44 :: q).length ≤ 1048576) {w : World} (hm : w.cell? ⟨0, 0, none⟩ = some (.int .i64 m)) :
    Calls Try.prog 56 #[.string (bs (p ++ 44 :: q))] w fun e w' => e = .returned (.tuple #[.agg #[.int .i64 0, .int .i64 0], .bool false]) ∧ Below w.heap.size w w' := by
  have hz0 := World.block_lt_of_cell? w _ hm
  have hct := fun (W : World) (hb : Below w.heap.size w W) => cut_hit p q 44 m (by omega) h W ((hb.cell (p := ⟨0, 0, none⟩) hz0).trans hm)
  have hpl : p.length ≤ 1048576 := by simp at hl; omega
  have hql : q.length ≤ 1048576 := by simp at hl; omega
  have hp1 := fun (W : World) (hb : Below w.heap.size w W) => parseSteps_any p m hpl W ((hb.cell (p := ⟨0, 0, none⟩) hz0).trans hm)
  have hq1 := fun (W : World) (hb : Below w.heap.size w W) => parseSteps_any q m hql W ((hb.cell (p := ⟨0, 0, none⟩) hz0).trans hm)
  rw [valP_yes h1, h1] at hp1
  rw [valP_yes h2, h2] at hq1
  obtain ⟨n, hn⟩ : ∃ n, n = readP p := ⟨_, rfl⟩
  obtain ⟨k, hk⟩ : ∃ k, k = readP q := ⟨_, rfl⟩
  rw [← hn, ← hk] at h3
  rw [← hn] at hp1
  rw [← hk] at hq1
  clear hn hk
  have hso := fun W => spotOf_any n k W
  rw [h3] at hso
  simp only [guardI_facts.1, guardI_facts.2] at hso
  have HSO := Lib.hid hso
  clear hso
  have HC := Lib.hid hct
  have HP := Lib.hid hp1
  have HQ := Lib.hid hq1
  clear hct hm hp1 hq1 hl hpl hql
  obtain ⟨q1, q2, q3, q4, q5, q6, q7⟩ := nadd
  go_enter Try.func56, Try.ntmps56
  go_wp2_with (first | (go_at_call 55; ((with_reducible refine (HC.out _ ?_).mono ?_); (focus exact (by repeat (first | exact Below.refl _ _ | assumption | refine Below.drew ?_ | refine below_drewN ?_ _ | refine Below.alloc ?_ (by first | omega | (simp; done) | (simp; omega)) _ | refine Below.setCell ?_ (by first | omega | (simp; done) | (simp; omega)) _ | refine Below.trans ?_ (Below.mono (by assumption) (by first | omega | (simp; done) | (simp; omega)))))); rintro e w1 ⟨rfl, hb1⟩; have hs1 := hb1.size; (try simp at hs1); obtain ⟨hcn, hfn, hln⟩ := bcellN (w.heap.size + 1) hb1 (by first | omega | (simp; done) | (simp; omega)); have hz0 : w.heap.size < w1.heap.size := (by omega); (first | have hk4 := call_facts hl3 hb1 (by simp) | skip); (first | have hk3 := call_facts hl2 hb1 (by simp) | skip); (first | have hk2 := call_facts hl1 hb1 (by simp) | skip); have hk1 := call_facts (fun b h => h) hb1 (Nat.le_refl _); (first | have hl4 := hk4.1 | skip); (first | have hl3 := hk3.1 | skip); (first | have hl2 := hk2.1 | skip); have hl1 := hk1.1)) | (go_at_call 67; ((with_reducible refine (HP.out _ ?_).mono ?_); (focus exact (by repeat (first | exact Below.refl _ _ | assumption | refine Below.drew ?_ | refine below_drewN ?_ _ | refine Below.alloc ?_ (by first | omega | (simp; done) | (simp; omega)) _ | refine Below.setCell ?_ (by first | omega | (simp; done) | (simp; omega)) _ | refine Below.trans ?_ (Below.mono (by assumption) (by first | omega | (simp; done) | (simp; omega)))))); rintro e w1 ⟨rfl, hb1⟩; have hs1 := hb1.size; (try simp at hs1); obtain ⟨hcn, hfn, hln⟩ := bcellN (w.heap.size + 1) hb1 (by first | omega | (simp; done) | (simp; omega)); have hz0 : w.heap.size < w1.heap.size := (by omega); (first | have hk4 := call_facts hl3 hb1 (by simp) | skip); (first | have hk3 := call_facts hl2 hb1 (by simp) | skip); (first | have hk2 := call_facts hl1 hb1 (by simp) | skip); have hk1 := call_facts (fun b h => h) hb1 (Nat.le_refl _); (first | have hl4 := hk4.1 | skip); (first | have hl3 := hk3.1 | skip); (first | have hl2 := hk2.1 | skip); have hl1 := hk1.1)) | (go_at_call 67; ((with_reducible refine (HQ.out _ ?_).mono ?_); (focus exact (by repeat (first | exact Below.refl _ _ | assumption | refine Below.drew ?_ | refine below_drewN ?_ _ | refine Below.alloc ?_ (by first | omega | (simp; done) | (simp; omega)) _ | refine Below.setCell ?_ (by first | omega | (simp; done) | (simp; omega)) _ | refine Below.trans ?_ (Below.mono (by assumption) (by first | omega | (simp; done) | (simp; omega)))))); rintro e w1 ⟨rfl, hb1⟩; have hs1 := hb1.size; (try simp at hs1); obtain ⟨hcn, hfn, hln⟩ := bcellN (w.heap.size + 1) hb1 (by first | omega | (simp; done) | (simp; omega)); have hz0 : w.heap.size < w1.heap.size := (by omega); (first | have hk4 := call_facts hl3 hb1 (by simp) | skip); (first | have hk3 := call_facts hl2 hb1 (by simp) | skip); (first | have hk2 := call_facts hl1 hb1 (by simp) | skip); have hk1 := call_facts (fun b h => h) hb1 (Nat.le_refl _); (first | have hl4 := hk4.1 | skip); (first | have hl3 := hk3.1 | skip); (first | have hl2 := hk2.1 | skip); have hl1 := hk1.1)) | (go_at_call 68; (refine (HSO.out _).mono ?_; rintro e w1 ⟨rfl, hb1⟩; have hs1 := hb1.size; (try simp at hs1); obtain ⟨hcn, hfn, hln⟩ := bcellN (w.heap.size + 1) hb1 (by first | omega | (simp; done) | (simp; omega)); have hz0 : w.heap.size < w1.heap.size := (by omega); (first | have hk4 := call_facts hl3 hb1 (by simp) | skip); (first | have hk3 := call_facts hl2 hb1 (by simp) | skip); (first | have hk2 := call_facts hl1 hb1 (by simp) | skip); have hk1 := call_facts (fun b h => h) hb1 (Nat.le_refl _); (first | have hl4 := hk4.1 | skip); (first | have hl3 := hk3.1 | skip); (first | have hl2 := hk2.1 | skip); have hl1 := hk1.1)))
  first | exact bodyPost_ret (v := .tuple #[.agg #[.int .i64 0, .int .i64 0], .bool false]) (by simp [results, Try.results56, go_sem, *]) rfl ⟨rfl, (by repeat (first | exact Below.refl _ _ | assumption | refine Below.drew ?_ | refine below_drewN ?_ _ | refine Below.alloc ?_ (by first | omega | (simp; done) | (simp; omega)) _ | refine Below.setCell ?_ (by first | omega | (simp; done) | (simp; omega)) _ | refine Below.trans ?_ (Below.mono (by assumption) (by first | omega | (simp; done) | (simp; omega)))))⟩

set_option maxHeartbeats 1000000 in
theorem parseSpot_on (p q : List UInt8) (h : (44 : UInt8) ∉ p) (h1 : okP p = true) (h2 : okP q = true) (h3 : onField (readP p) (readP q) = true) (m : Int) (hl : (p ++ 44 :: q).length ≤ 1048576) {w : World} (hm : w.cell? ⟨0, 0, none⟩ = some (.int .i64 m)) :
    Calls Try.prog 56 #[.string (bs (p ++ 44 :: q))] w fun e w' => e = .returned (.tuple #[.agg #[.int .i64 (readP p), .int .i64 (readP q)], .bool true]) ∧ Below w.heap.size w w' := by
  have hz0 := World.block_lt_of_cell? w _ hm
  have hct := fun (W : World) (hb : Below w.heap.size w W) => cut_hit p q 44 m (by omega) h W ((hb.cell (p := ⟨0, 0, none⟩) hz0).trans hm)
  have hpl : p.length ≤ 1048576 := by simp at hl; omega
  have hql : q.length ≤ 1048576 := by simp at hl; omega
  have hp1 := fun (W : World) (hb : Below w.heap.size w W) => parseSteps_any p m hpl W ((hb.cell (p := ⟨0, 0, none⟩) hz0).trans hm)
  have hq1 := fun (W : World) (hb : Below w.heap.size w W) => parseSteps_any q m hql W ((hb.cell (p := ⟨0, 0, none⟩) hz0).trans hm)
  rw [valP_yes h1, h1] at hp1
  rw [valP_yes h2, h2] at hq1
  obtain ⟨n, hn⟩ : ∃ n, n = readP p := ⟨_, rfl⟩
  obtain ⟨k, hk⟩ : ∃ k, k = readP q := ⟨_, rfl⟩
  rw [← hn, ← hk] at h3
  rw [← hn] at hp1
  rw [← hk] at hq1
  rw [← hn, ← hk]
  clear hn hk
  have hso := fun W => spotOf_any n k W
  rw [h3] at hso
  simp only [guardI_facts.1, guardI_facts.2] at hso
  have HSO := Lib.hid hso
  clear hso
  have HC := Lib.hid hct
  have HP := Lib.hid hp1
  have HQ := Lib.hid hq1
  clear hct hm hp1 hq1 hl hpl hql
  obtain ⟨q1, q2, q3, q4, q5, q6, q7⟩ := nadd
  go_enter Try.func56, Try.ntmps56
  go_wp2_with (first | (go_at_call 55; ((with_reducible refine (HC.out _ ?_).mono ?_); (focus exact (by repeat (first | exact Below.refl _ _ | assumption | refine Below.drew ?_ | refine below_drewN ?_ _ | refine Below.alloc ?_ (by first | omega | (simp; done) | (simp; omega)) _ | refine Below.setCell ?_ (by first | omega | (simp; done) | (simp; omega)) _ | refine Below.trans ?_ (Below.mono (by assumption) (by first | omega | (simp; done) | (simp; omega)))))); rintro e w1 ⟨rfl, hb1⟩; have hs1 := hb1.size; (try simp at hs1); obtain ⟨hcn, hfn, hln⟩ := bcellN (w.heap.size + 1) hb1 (by first | omega | (simp; done) | (simp; omega)); have hz0 : w.heap.size < w1.heap.size := (by omega); (first | have hk4 := call_facts hl3 hb1 (by simp) | skip); (first | have hk3 := call_facts hl2 hb1 (by simp) | skip); (first | have hk2 := call_facts hl1 hb1 (by simp) | skip); have hk1 := call_facts (fun b h => h) hb1 (Nat.le_refl _); (first | have hl4 := hk4.1 | skip); (first | have hl3 := hk3.1 | skip); (first | have hl2 := hk2.1 | skip); have hl1 := hk1.1)) | (go_at_call 67; ((with_reducible refine (HP.out _ ?_).mono ?_); (focus exact (by repeat (first | exact Below.refl _ _ | assumption | refine Below.drew ?_ | refine below_drewN ?_ _ | refine Below.alloc ?_ (by first | omega | (simp; done) | (simp; omega)) _ | refine Below.setCell ?_ (by first | omega | (simp; done) | (simp; omega)) _ | refine Below.trans ?_ (Below.mono (by assumption) (by first | omega | (simp; done) | (simp; omega)))))); rintro e w1 ⟨rfl, hb1⟩; have hs1 := hb1.size; (try simp at hs1); obtain ⟨hcn, hfn, hln⟩ := bcellN (w.heap.size + 1) hb1 (by first | omega | (simp; done) | (simp; omega)); have hz0 : w.heap.size < w1.heap.size := (by omega); (first | have hk4 := call_facts hl3 hb1 (by simp) | skip); (first | have hk3 := call_facts hl2 hb1 (by simp) | skip); (first | have hk2 := call_facts hl1 hb1 (by simp) | skip); have hk1 := call_facts (fun b h => h) hb1 (Nat.le_refl _); (first | have hl4 := hk4.1 | skip); (first | have hl3 := hk3.1 | skip); (first | have hl2 := hk2.1 | skip); have hl1 := hk1.1)) | (go_at_call 67; ((with_reducible refine (HQ.out _ ?_).mono ?_); (focus exact (by repeat (first | exact Below.refl _ _ | assumption | refine Below.drew ?_ | refine below_drewN ?_ _ | refine Below.alloc ?_ (by first | omega | (simp; done) | (simp; omega)) _ | refine Below.setCell ?_ (by first | omega | (simp; done) | (simp; omega)) _ | refine Below.trans ?_ (Below.mono (by assumption) (by first | omega | (simp; done) | (simp; omega)))))); rintro e w1 ⟨rfl, hb1⟩; have hs1 := hb1.size; (try simp at hs1); obtain ⟨hcn, hfn, hln⟩ := bcellN (w.heap.size + 1) hb1 (by first | omega | (simp; done) | (simp; omega)); have hz0 : w.heap.size < w1.heap.size := (by omega); (first | have hk4 := call_facts hl3 hb1 (by simp) | skip); (first | have hk3 := call_facts hl2 hb1 (by simp) | skip); (first | have hk2 := call_facts hl1 hb1 (by simp) | skip); have hk1 := call_facts (fun b h => h) hb1 (Nat.le_refl _); (first | have hl4 := hk4.1 | skip); (first | have hl3 := hk3.1 | skip); (first | have hl2 := hk2.1 | skip); have hl1 := hk1.1)) | (go_at_call 68; (refine (HSO.out _).mono ?_; rintro e w1 ⟨rfl, hb1⟩; have hs1 := hb1.size; (try simp at hs1); obtain ⟨hcn, hfn, hln⟩ := bcellN (w.heap.size + 1) hb1 (by first | omega | (simp; done) | (simp; omega)); have hz0 : w.heap.size < w1.heap.size := (by omega); (first | have hk4 := call_facts hl3 hb1 (by simp) | skip); (first | have hk3 := call_facts hl2 hb1 (by simp) | skip); (first | have hk2 := call_facts hl1 hb1 (by simp) | skip); have hk1 := call_facts (fun b h => h) hb1 (Nat.le_refl _); (first | have hl4 := hk4.1 | skip); (first | have hl3 := hk3.1 | skip); (first | have hl2 := hk2.1 | skip); have hl1 := hk1.1)))
  first | exact bodyPost_ret (v := .tuple #[.agg #[.int .i64 n, .int .i64 k], .bool true]) (by simp [results, Try.results56, go_sem, *]) rfl ⟨rfl, (by repeat (first | exact Below.refl _ _ | assumption | refine Below.drew ?_ | refine below_drewN ?_ _ | refine Below.alloc ?_ (by first | omega | (simp; done) | (simp; omega)) _ | refine Below.setCell ?_ (by first | omega | (simp; done) | (simp; omega)) _ | refine Below.trans ?_ (Below.mono (by assumption) (by first | omega | (simp; done) | (simp; omega)))))⟩

/-- The program's reading, of every text. -/
theorem parseSpot_any (l : List UInt8) (m : Int) (hl : l.length ≤ 1048576) {w : World} (hm : w.cell? ⟨0, 0, none⟩ = some (.int .i64 m)) :
    Calls Try.prog 56 #[.string (bs l)] w fun e w' => e = .returned (ansS l) ∧ Below w.heap.size w w' := by
  by_cases h : (44 : UInt8) ∈ l
  · obtain ⟨p, q, rfl, hp⟩ := spl_cut 44 l h
    cases h1 : okP p
    · rw [ans_no (by rw [okS_some hp, h1]; rfl)]
      exact parseSpot_left p q hp h1 m hl hm
    · cases h2 : okP q
      · rw [ans_no (by rw [okS_some hp, h1, h2]; rfl)]
        exact parseSpot_right p q hp h1 h2 m hl hm
      · cases h3 : onField (readP p) (readP q)
        · rw [ans_no (by rw [okS_some hp, h1, h2, h3]; rfl)]
          exact parseSpot_off p q hp h1 h2 h3 m hl hm
        · rw [ans_yes hp (by rw [okS_some hp, h1, h2, h3]; rfl)]
          exact parseSpot_on p q hp h1 h2 h3 m hl hm
  · rw [ans_no (okS_none h)]
    exact parseSpot_miss l h m hl hm

end Go.Proofs.Ytagfleajkalgiaa
