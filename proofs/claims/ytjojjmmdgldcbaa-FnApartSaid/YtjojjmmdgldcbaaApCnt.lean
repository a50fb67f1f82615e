/- The counts at which two moves come close, both sides. Conditions: those written in each theorem. -/
import Derived.Test.YtjojjmmdgldcbaaApAt
import Derived.Test.YtjojjmmdgldcbaaInts
import Derived.Deep.RegionHeld3
import Derived.Deep.DeepCutAuto
import Derived.Deep.DrawnRows
import Derived.IntWalk
namespace Go.Proofs.Ytjojjmmdgldcbaa
open Go.RowKit


attribute [local go_sem ↓] Go.wp_at_zero Go.wp_at_succ

/-- Are they close after k counts? -/
def clK (x1 y1 x2 y2 n x3 y3 x4 y4 m L : Int) (k : Nat) : Bool := fLt (sqAt x1 y1 x2 y2 n x3 y3 x4 y4 m (k : Int)) (n * n) (L * L) 1
/-- The close counts below k. -/
def ccs (x1 y1 x2 y2 n x3 y3 x4 y4 m L : Int) : Nat → List Int
  | 0 => []
  | k + 1 => if clK x1 y1 x2 y2 n x3 y3 x4 y4 m L k then ccs x1 y1 x2 y2 n x3 y3 x4 y4 m L k ++ [(k : Int)] else ccs x1 y1 x2 y2 n x3 y3 x4 y4 m L k
theorem ccs_length (x1 y1 x2 y2 n x3 y3 x4 y4 m L : Int) : ∀ k, (ccs x1 y1 x2 y2 n x3 y3 x4 y4 m L k).length ≤ k
  | 0 => Nat.le_refl _
  | k + 1 => by
    have := ccs_length x1 y1 x2 y2 n x3 y3 x4 y4 m L k
    unfold ccs
    split <;> simp <;> omega
theorem ccs_yes {x1 y1 x2 y2 n x3 y3 x4 y4 m L : Int} {k : Nat} (h : clK x1 y1 x2 y2 n x3 y3 x4 y4 m L k = true) : ccs x1 y1 x2 y2 n x3 y3 x4 y4 m L (k + 1) = ccs x1 y1 x2 y2 n x3 y3 x4 y4 m L k ++ [(k : Int)] := by show (if _ then _ else _) = _; rw [if_pos h]
theorem ccs_no {x1 y1 x2 y2 n x3 y3 x4 y4 m L : Int} {k : Nat} (h : clK x1 y1 x2 y2 n x3 y3 x4 y4 m L k = false) : ccs x1 y1 x2 y2 n x3 y3 x4 y4 m L (k + 1) = ccs x1 y1 x2 y2 n x3 y3 x4 y4 m L k := by show (if _ then _ else _) = _; rw [if_neg (by rw [h]; simp)]
def ccOk (x1 y1 x2 y2 n x3 y3 x4 y4 m L : Int) : Bool := gtog x1 y1 x2 y2 n x3 y3 x4 y4 m && inB 0 L 80
/-- CloseCounts' list. -/
def closeL (x1 y1 x2 y2 n x3 y3 x4 y4 m L : Int) : List Int := if ccOk x1 y1 x2 y2 n x3 y3 x4 y4 m L then ccs x1 y1 x2 y2 n x3 y3 x4 y4 m L (n.toNat + 1) else []
theorem closeL_length (x1 y1 x2 y2 n x3 y3 x4 y4 m L : Int) : (closeL x1 y1 x2 y2 n x3 y3 x4 y4 m L).length ≤ 65 := by
  unfold closeL
  split
  · rename_i h
    unfold ccOk at h
    obtain ⟨h1, _⟩ := (by simpa using h : gtog x1 y1 x2 y2 n x3 y3 x4 y4 m = true ∧ inB 0 L 80 = true)
    have := ccs_length x1 y1 x2 y2 n x3 y3 x4 y4 m L (n.toNat + 1)
    have := isMv_iff.1 (gtog_iff.1 h1).1
    omega
  · simp
def ClosePost (x1 y1 x2 y2 n x3 y3 x4 y4 m L : Int) (w : World) (e : Ending) (w' : World) : Prop :=
  ∃ v, e = .returned (.tuple #[v, .bool (ccOk x1 y1 x2 y2 n x3 y3 x4 y4 m L)]) ∧ OwnInts w' w.heap.size v (closeL x1 y1 x2 y2 n x3 y3 x4 y4 m L) ∧ Below w.heap.size w w'
/-- The specification compares the fraction in lowest terms. -/
theorem clK_spec {x1 y1 x2 y2 n x3 y3 x4 y4 m L : Int} {k : Nat} (h : gtog x1 y1 x2 y2 n x3 y3 x4 y4 m = true) (k1 : (k : Int) ≤ n) (L0 : 0 ≤ L) (L1 : L ≤ 80) : ∃ a b : Int, IntKind.i64.wrap (L * L) = a ∧ IntKind.i64.wrap (a * atd x1 y1 x2 y2 n x3 y3 x4 y4 m (k : Int)) = b ∧ clK x1 y1 x2 y2 n x3 y3 x4 y4 m L k = decide (atn x1 y1 x2 y2 n x3 y3 x4 y4 m (k : Int) < b) := by
  obtain ⟨A, B, f3, f4, hA, hB, hB0, f1, f2⟩ := sqAt_nat h (show (0 : Int) ≤ (k : Int) by omega) k1
  obtain ⟨c, c0, e1, e2, l1, l2, l3, l4⟩ := low_facts A B hB0
  have b1 := mul_bd (a := L) (b := L) (m := 80) (n := 80) (by omega) (by omega) (by omega) (by omega)
  rw [f1, f2]
  obtain ⟨P, hP⟩ : ∃ P, P = lowN A B := ⟨_, rfl⟩
  obtain ⟨Q, hQ⟩ : ∃ Q, Q = lowD A B := ⟨_, rfl⟩
  rw [← hP] at e1 l1 l3 ⊢
  rw [← hQ] at e2 l2 l4 ⊢
  have b2 := mul_bd (a := L * L) (b := Q) (m := 6400) (n := 4096) (by omega) (by omega) (by omega) (by omega)
  refine ⟨L * L, L * L * Q, IntWalk.i64_in _ (by omega), IntWalk.i64_in _ (by omega), ?_⟩
  unfold clK
  rw [f3, f4, e1, e2]
  have e3 := fLt_mul (a := P) (b := Q) (c := L * L) (d := 1) (k := (c : Int)) (m := 1) (by omega) (by omega)
  rw [Int.mul_one, Int.mul_one] at e3
  rw [e3]
  unfold fLt
  rw [Int.mul_one]

set_option maxHeartbeats 1000000 in
theorem specClose_no (x1 y1 x2 y2 n x3 y3 x4 y4 m L : Int) (h : gtog x1 y1 x2 y2 n x3 y3 x4 y4 m = false) (w : World) :
    Calls Try.prog 23 #[.agg #[.int .i64 x1, .int .i64 y1, .int .i64 x2, .int .i64 y2, .int .i64 n], .agg #[.int .i64 x3, .int .i64 y3, .int .i64 x4, .int .i64 y4, .int .i64 m], .int .i64 L] w fun e w' => e = .returned (.tuple #[.slice none 0 0, .bool false]) ∧ Below w.heap.size w w' := by
  obtain ⟨q1, q2, q3, q4, q5, q6, q7⟩ := nadd
  have HG := Lib.hid (fun W => apGood_any x1 y1 x2 y2 n x3 y3 x4 y4 m W)
  rw [h] at HG
  clear h
  all_goals
    go_enter Try.func23, Try.ntmps23
    go_wp2_with (first | (go_at_call 53; ((with_reducible refine (HG.out _).mono ?_); rintro e w1 ⟨rfl, hb1⟩; have hs1 := hb1.size; (try simp at hs1); (first | have hk4 := call_facts hl3 hb1 (by first | omega | (simp; done) | (simp; omega)) | skip); (first | have hk3 := call_facts hl2 hb1 (by first | omega | (simp; done) | (simp; omega)) | skip); (first | have hk2 := call_facts hl1 hb1 (by first | omega | (simp; done) | (simp; omega)) | skip); have hk1 := call_facts (fun b h => h) hb1 (Nat.le_refl _); (first | have hl4 := hk4.1 | skip); (first | have hl3 := hk3.1 | skip); (first | have hl2 := hk2.1 | skip); have hl1 := hk1.1)))
    go_ret2
    exact ⟨rfl, (by repeat (first | exact Below.refl _ _ | assumption | refine Below.drew ?_ | refine below_drewN ?_ _ | refine Below.alloc ?_ (by first | omega | (simp; done) | (simp; omega)) _ | refine Below.setCell ?_ (by first | omega | (simp; done) | (simp; omega)) _ | refine Below.trans ?_ (Below.mono (by assumption) (by first | omega | (simp; done) | (simp; omega)))))⟩

set_option maxHeartbeats 1000000 in
theorem specClose_far (x1 y1 x2 y2 n x3 y3 x4 y4 m L : Int) (h : gtog x1 y1 x2 y2 n x3 y3 x4 y4 m = true) (h2 : inB 0 L 80 = false) (w : World) :
    Calls Try.prog 23 #[.agg #[.int .i64 x1, .int .i64 y1, .int .i64 x2, .int .i64 y2, .int .i64 n], .agg #[.int .i64 x3, .int .i64 y3, .int .i64 x4, .int .i64 y4, .int .i64 m], .int .i64 L] w fun e w' => e = .returned (.tuple #[.slice none 0 0, .bool false]) ∧ Below w.heap.size w w' := by
  obtain ⟨q1, q2, q3, q4, q5, q6, q7⟩ := nadd
  have HG := Lib.hid (fun W => apGood_any x1 y1 x2 y2 n x3 y3 x4 y4 m W)
  rw [h] at HG
  have HD := Lib.hid (fun W => apDistance_any L W)
  rw [h2] at HD
  clear h h2
  all_goals
    go_enter Try.func23, Try.ntmps23
    go_wp2_with (first | (go_at_call 53; ((with_reducible refine (HG.out _).mono ?_); rintro e w1 ⟨rfl, hb1⟩; have hs1 := hb1.size; (try simp at hs1); (first | have hk4 := call_facts hl3 hb1 (by first | omega | (simp; done) | (simp; omega)) | skip); (first | have hk3 := call_facts hl2 hb1 (by first | omega | (simp; done) | (simp; omega)) | skip); (first | have hk2 := call_facts hl1 hb1 (by first | omega | (simp; done) | (simp; omega)) | skip); have hk1 := call_facts (fun b h => h) hb1 (Nat.le_refl _); (first | have hl4 := hk4.1 | skip); (first | have hl3 := hk3.1 | skip); (first | have hl2 := hk2.1 | skip); have hl1 := hk1.1)) | (go_at_call 67; ((with_reducible refine (HD.out _).mono ?_); rintro e w' ⟨rfl, rfl⟩)))
    go_ret2
    exact ⟨rfl, (by repeat (first | exact Below.refl _ _ | assumption | refine Below.drew ?_ | refine below_drewN ?_ _ | refine Below.alloc ?_ (by first | omega | (simp; done) | (simp; omega)) _ | refine Below.setCell ?_ (by first | omega | (simp; done) | (simp; omega)) _ | refine Below.trans ?_ (Below.mono (by assumption) (by first | omega | (simp; done) | (simp; omega)))))⟩

set_option maxRecDepth 100000 in
set_option maxHeartbeats 4000000 in
theorem specClose_yes (x1 y1 x2 y2 x3 y3 x4 y4 L : Int) (N : Nat) (h : gtog x1 y1 x2 y2 (N : Int) x3 y3 x4 y4 (N : Int) = true) (h2 : inB 0 L 80 = true) (w : World) :
    Calls Try.prog 23 #[.agg #[.int .i64 x1, .int .i64 y1, .int .i64 x2, .int .i64 y2, .int .i64 (N : Int)], .agg #[.int .i64 x3, .int .i64 y3, .int .i64 x4, .int .i64 y4, .int .i64 (N : Int)], .int .i64 L] w fun e w' => ∃ v, e = .returned (.tuple #[v, .bool true]) ∧ OwnInts w' w.heap.size v (ccs x1 y1 x2 y2 (N : Int) x3 y3 x4 y4 (N : Int) L (N + 1)) ∧ Below w.heap.size w w' := by
  obtain ⟨L0, L1⟩ := inB_iff.1 h2
  have hN := (isMv_iff.1 (gtog_iff.1 h).1).2.2
  obtain ⟨LL, hLL⟩ : ∃ z, IntKind.i64.wrap (L * L) = z := ⟨_, rfl⟩
  have HWK : Hid (∀ (k : Nat), k ≤ N → ∃ P Q b : Int, IntKind.i64.wrap (LL * Q) = b ∧ clK x1 y1 x2 y2 (N : Int) x3 y3 x4 y4 (N : Int) L k = decide (P < b) ∧ ∀ W, Calls Try.prog 14 #[.agg #[.int .i64 x1, .int .i64 y1, .int .i64 x2, .int .i64 y2, .int .i64 (N : Int)], .agg #[.int .i64 x3, .int .i64 y3, .int .i64 x4, .int .i64 y4, .int .i64 (N : Int)], .int .i64 (k : Int)] W fun e w' => e = .returned (.tuple #[.int .i64 P, .int .i64 Q, .bool true]) ∧ Below W.heap.size W w') := Lib.hid (by
    intro k hk
    obtain ⟨a, b, e1, e2, e3⟩ := clK_spec (k := k) h (by omega) L0 L1
    have hp : (gtog x1 y1 x2 y2 (N : Int) x3 y3 x4 y4 (N : Int) && inB 0 (k : Int) (N : Int)) = true := by rw [h]; exact inB_iff.2 (by omega)
    have hh := fun W => specApartAt_any x1 y1 x2 y2 (N : Int) x3 y3 x4 y4 (N : Int) (k : Int) W
    rw [hp] at hh
    simp only [guardI_facts.1] at hh
    rw [← e1, hLL] at e2
    exact ⟨_, _, b, e2, e3, hh⟩)
  obtain ⟨q1, q2, q3, q4, q5, q6, q7⟩ := nadd
  obtain ⟨j0, hi, hz0, hz1, hz2⟩ := info_parts Try.infoInt
  have HI := Lib.hid hi
  have HZ0 := Lib.hid hz0
  have HZ1 := Lib.hid hz1
  have HZ2 := Lib.hid hz2
  clear hi hz0 hz1 hz2
  have HG := Lib.hid (fun W => apGood_any x1 y1 x2 y2 (N : Int) x3 y3 x4 y4 (N : Int) W)
  rw [h] at HG
  have HD := Lib.hid (fun W => apDistance_any L W)
  rw [h2] at HD
  clear h h2
  have v1 : IntKind.i64.wrap ((N : Int) + 1) = (N : Int) + 1 := IntWalk.i64_in _ (by omega)
  go_enter Try.func23, Try.ntmps23
  go_wp2_with (first | (go_at_call 53; ((with_reducible refine (HG.out _).mono ?_); rintro e w1 ⟨rfl, hb1⟩; have hs1 := hb1.size; (try simp at hs1); (first | have hk4 := call_facts hl3 hb1 (by first | omega | (simp; done) | (simp; omega)) | skip); (first | have hk3 := call_facts hl2 hb1 (by first | omega | (simp; done) | (simp; omega)) | skip); (first | have hk2 := call_facts hl1 hb1 (by first | omega | (simp; done) | (simp; omega)) | skip); have hk1 := call_facts (fun b h => h) hb1 (Nat.le_refl _); (first | have hl4 := hk4.1 | skip); (first | have hl3 := hk3.1 | skip); (first | have hl2 := hk2.1 | skip); have hl1 := hk1.1)) | (go_at_call 67; ((with_reducible refine (HD.out _).mono ?_); rintro e w' ⟨rfl, rfl⟩)))
  go_loopw [8, 9] (fun v i wr => ∃ k : Nat, k ≤ N + 1 ∧ i = .int .i64 k ∧ OwnInts wr (w.heap.size + 1 + 1) v (ccs x1 y1 x2 y2 (N : Int) x3 y3 x4 y4 (N : Int) L k) ∧ wr.cell? ⟨w.heap.size, 0, none⟩ = some (.int .i64 x1) ∧ wr.cell? ⟨w.heap.size, 1, none⟩ = some (.int .i64 y1) ∧ wr.cell? ⟨w.heap.size, 2, none⟩ = some (.int .i64 x2) ∧ wr.cell? ⟨w.heap.size, 3, none⟩ = some (.int .i64 y2) ∧ wr.cell? ⟨w.heap.size, 4, none⟩ = some (.int .i64 (N : Int)) ∧ wr.cell? ⟨w.heap.size + 1, 0, none⟩ = some (.int .i64 x3) ∧ wr.cell? ⟨w.heap.size + 1, 1, none⟩ = some (.int .i64 y3) ∧ wr.cell? ⟨w.heap.size + 1, 2, none⟩ = some (.int .i64 x4) ∧ wr.cell? ⟨w.heap.size + 1, 3, none⟩ = some (.int .i64 y4) ∧ wr.cell? ⟨w.heap.size + 1, 4, none⟩ = some (.int .i64 (N : Int)) ∧ Below w.heap.size w wr ∧ w.heap.size + 1 < wr.heap.size) (fun _ i _ => N + 1 - (intOf i).toNat)
  case atStart => exact ⟨0, Nat.zero_le _, rfl, World.ownsRow_nil _ _ _ _, by go_simp, by go_simp, by go_simp, by go_simp, by go_simp, by go_simp, by go_simp, by go_simp, by go_simp, by go_simp, (by repeat (first | exact Below.refl _ _ | assumption | refine Below.drew ?_ | refine below_drewN ?_ _ | refine Below.alloc ?_ (by first | omega | (simp; done) | (simp; omega)) _ | refine Below.setCell ?_ (by first | omega | (simp; done) | (simp; omega)) _ | refine Below.trans ?_ (Below.mono (by assumption) (by first | omega | (simp; done) | (simp; omega))))), (by first | omega | (simp; done) | (simp; omega))⟩
  case round =>
    obtain ⟨k, hk, rfl, hown, c00, c01, c02, c03, c04, c10, c11, c12, c13, c14, hbr, hz⟩ := hrel
    have hsr := hbr.size
    (repeat clear hl1); (repeat clear hl2); (repeat clear hl3); (repeat clear hl4); (repeat clear hk1); (repeat clear hk2); (repeat clear hk3); (repeat clear hk4); (repeat clear hcn); (repeat clear hfn); (repeat clear hln); (repeat clear hz0); (repeat clear hz1); (repeat clear hz2); (repeat clear hs1); (repeat clear hb1)
    by_cases hlt : k < N + 1
    · have hwl := ccs_length x1 y1 x2 y2 (N : Int) x3 y3 x4 y4 (N : Int) L k
      have i0 : (0 : Int) ≤ (k : Int) := by omega
      have i1 : (k : Int) < (N : Int) + 1 := by omega
      have i2 : (k : Int) ≤ (N : Int) := by omega
      obtain ⟨P, Q, b, u2, hKb, hK⟩ := HWK.out k (by omega)
      have HK := Lib.hid hK
      clear hK
      cases hc : clK x1 y1 x2 y2 (N : Int) x3 y3 x4 y4 (N : Int) L k
      all_goals
        rw [hc] at hKb
      case' true => have hKc : P < b := of_decide_eq_true hKb.symm
      case' false => have hKc : ¬ P < b := of_decide_eq_false hKb.symm
      all_goals clear hKb
      · have hnb := ccs_no hc
        have Hnb := Lib.hid hnb
        clear hnb hc
        go_wp2_with (first | (go_at_call 14; ((with_reducible refine (HK.out _).mono ?_); rintro e w1 ⟨rfl, hb1⟩; have hs1 := hb1.size)))
        go_roundw
        case rel => exact ⟨k + 1, by omega, by go_num, by rw [Hnb.out]; exact own_below hown hb1, (hb1.cell (p := ⟨w.heap.size, 0, none⟩) (by first | omega | (simp; done) | (simp; omega))).trans c00, (hb1.cell (p := ⟨w.heap.size, 1, none⟩) (by first | omega | (simp; done) | (simp; omega))).trans c01, (hb1.cell (p := ⟨w.heap.size, 2, none⟩) (by first | omega | (simp; done) | (simp; omega))).trans c02, (hb1.cell (p := ⟨w.heap.size, 3, none⟩) (by first | omega | (simp; done) | (simp; omega))).trans c03, (hb1.cell (p := ⟨w.heap.size, 4, none⟩) (by first | omega | (simp; done) | (simp; omega))).trans c04, (hb1.cell (p := ⟨w.heap.size + 1, 0, none⟩) (by first | omega | (simp; done) | (simp; omega))).trans c10, (hb1.cell (p := ⟨w.heap.size + 1, 1, none⟩) (by first | omega | (simp; done) | (simp; omega))).trans c11, (hb1.cell (p := ⟨w.heap.size + 1, 2, none⟩) (by first | omega | (simp; done) | (simp; omega))).trans c12, (hb1.cell (p := ⟨w.heap.size + 1, 3, none⟩) (by first | omega | (simp; done) | (simp; omega))).trans c13, (hb1.cell (p := ⟨w.heap.size + 1, 4, none⟩) (by first | omega | (simp; done) | (simp; omega))).trans c14, hbr.trans (hb1.mono (by first | omega | (simp; done) | (simp; omega))), Nat.lt_of_lt_of_le hz hb1.size⟩
        case measure => simp [intOf]; omega
      · have hnb := ccs_yes hc
        have Hnb := Lib.hid hnb
        clear hnb hc
        go_wp2_with (first | (at_builtin; refine wpList_append_own _ rfl _ _ 37 rfl (w.heap.size + 1 + 1) 3 j0 (.int .i64 0) 1 8 Try.underlying37 HI.out HZ0.out HZ1.out HZ2.out rfl (by decide) _ _ _ rfl ((own_below hown hb1).alloc _) ⟨w1.heap.size, 0, none⟩ 1 1 [.int .i64 (k : Int)] rfl rfl ?c1 ?c2 ?c3 ?c4 ?c5 ?_) | (go_at_call 14; ((with_reducible refine (HK.out _).mono ?_); rintro e w1 ⟨rfl, hb1⟩; have hs1 := hb1.size)))
        case c1 =>
          intro j u hj
          match j, hj with
          | 0, hj => simp at hj; subst hj; simp [Addr.add]
        case c2 => intro u hu; simp at hu; subst hu; rfl
        case c3 => unfold maxLen; omega
        case c4 => omega
        case c5 => simp; omega
        intro v' w2 hown' hgrow _
        have hst := own_stepI (w := w) (base := w.heap.size) (hbr.trans (hb1.mono (by first | omega | (simp; done) | (simp; omega)))) (Nat.le_trans hz hb1.size) (by omega) (own_below hown hb1) hown' hgrow
        obtain ⟨ho2, hb2, hc2, hz2⟩ := hst
        have z00 := hc2 _ _ _ (by omega) (show w1.cell? ⟨w.heap.size, 0, none⟩ = some (.int .i64 x1) from (hb1.cell (p := ⟨w.heap.size, 0, none⟩) (by first | omega | (simp; done) | (simp; omega))).trans c00)
        have z01 := hc2 _ _ _ (by omega) (show w1.cell? ⟨w.heap.size, 1, none⟩ = some (.int .i64 y1) from (hb1.cell (p := ⟨w.heap.size, 1, none⟩) (by first | omega | (simp; done) | (simp; omega))).trans c01)
        have z02 := hc2 _ _ _ (by omega) (show w1.cell? ⟨w.heap.size, 2, none⟩ = some (.int .i64 x2) from (hb1.cell (p := ⟨w.heap.size, 2, none⟩) (by first | omega | (simp; done) | (simp; omega))).trans c02)
        have z03 := hc2 _ _ _ (by omega) (show w1.cell? ⟨w.heap.size, 3, none⟩ = some (.int .i64 y2) from (hb1.cell (p := ⟨w.heap.size, 3, none⟩) (by first | omega | (simp; done) | (simp; omega))).trans c03)
        have z04 := hc2 _ _ _ (by omega) (show w1.cell? ⟨w.heap.size, 4, none⟩ = some (.int .i64 (N : Int)) from (hb1.cell (p := ⟨w.heap.size, 4, none⟩) (by first | omega | (simp; done) | (simp; omega))).trans c04)
        have z10 := hc2 _ _ _ (by omega) (show w1.cell? ⟨w.heap.size + 1, 0, none⟩ = some (.int .i64 x3) from (hb1.cell (p := ⟨w.heap.size + 1, 0, none⟩) (by first | omega | (simp; done) | (simp; omega))).trans c10)
        have z11 := hc2 _ _ _ (by omega) (show w1.cell? ⟨w.heap.size + 1, 1, none⟩ = some (.int .i64 y3) from (hb1.cell (p := ⟨w.heap.size + 1, 1, none⟩) (by first | omega | (simp; done) | (simp; omega))).trans c11)
        have z12 := hc2 _ _ _ (by omega) (show w1.cell? ⟨w.heap.size + 1, 2, none⟩ = some (.int .i64 x4) from (hb1.cell (p := ⟨w.heap.size + 1, 2, none⟩) (by first | omega | (simp; done) | (simp; omega))).trans c12)
        have z13 := hc2 _ _ _ (by omega) (show w1.cell? ⟨w.heap.size + 1, 3, none⟩ = some (.int .i64 y4) from (hb1.cell (p := ⟨w.heap.size + 1, 3, none⟩) (by first | omega | (simp; done) | (simp; omega))).trans c13)
        have z14 := hc2 _ _ _ (by omega) (show w1.cell? ⟨w.heap.size + 1, 4, none⟩ = some (.int .i64 (N : Int)) from (hb1.cell (p := ⟨w.heap.size + 1, 4, none⟩) (by first | omega | (simp; done) | (simp; omega))).trans c14)
        have zz : w.heap.size + 1 < w2.heap.size := Nat.lt_of_lt_of_le hz (Nat.le_trans hb1.size (Nat.le_of_lt hz2))
        clear hown' hgrow hc2 hown
        (repeat clear hl1); (repeat clear hl2); (repeat clear hl3); (repeat clear hl4); (repeat clear hk1); (repeat clear hk2); (repeat clear hk3); (repeat clear hk4); (repeat clear hcn); (repeat clear hfn); (repeat clear hln); (repeat clear hz0); (repeat clear hz1); (repeat clear hz2); (repeat clear hs1); (repeat clear hb1)
        go_wp2
        go_roundw
        case rel => exact ⟨k + 1, by omega, by go_num, by rw [Hnb.out]; exact ho2, z00, z01, z02, z03, z04, z10, z11, z12, z13, z14, hb2, zz⟩
        case measure => simp [intOf]; omega
    · obtain rfl : k = N + 1 := by omega
      have i3 : ¬ (((N + 1 : Nat) : Int) ≤ (N : Int)) := by omega
      have i4 : ¬ (((N + 1 : Nat) : Int) < (N : Int) + 1) := by omega
      go_wp2
      go_ret2
      exact ⟨_, rfl, own_mono hown (by omega), (by repeat (first | exact Below.refl _ _ | assumption | refine Below.drew ?_ | refine below_drewN ?_ _ | refine Below.alloc ?_ (by first | omega | (simp; done) | (simp; omega)) _ | refine Below.setCell ?_ (by first | omega | (simp; done) | (simp; omega)) _ | refine Below.trans ?_ (Below.mono (by assumption) (by first | omega | (simp; done) | (simp; omega)))))⟩

theorem specClose_any (x1 y1 x2 y2 n x3 y3 x4 y4 m L : Int) (w : World) :
    Calls Try.prog 23 #[.agg #[.int .i64 x1, .int .i64 y1, .int .i64 x2, .int .i64 y2, .int .i64 n], .agg #[.int .i64 x3, .int .i64 y3, .int .i64 x4, .int .i64 y4, .int .i64 m], .int .i64 L] w (ClosePost x1 y1 x2 y2 n x3 y3 x4 y4 m L w) := by
  have hno : ccOk x1 y1 x2 y2 n x3 y3 x4 y4 m L = false → closeL x1 y1 x2 y2 n x3 y3 x4 y4 m L = [] := fun e => by unfold closeL; rw [e]; rfl
  cases h : gtog x1 y1 x2 y2 n x3 y3 x4 y4 m
  · have e1 : ccOk x1 y1 x2 y2 n x3 y3 x4 y4 m L = false := by unfold ccOk; rw [h]; rfl
    refine (specClose_no x1 y1 x2 y2 n x3 y3 x4 y4 m L h w).mono fun e w' ⟨he, hb⟩ => ⟨.slice none 0 0, by rw [e1]; exact he, ?_, hb⟩
    rw [hno e1]
    exact World.ownsRow_nil _ _ _ _
  · cases h2 : inB 0 L 80
    · have e1 : ccOk x1 y1 x2 y2 n x3 y3 x4 y4 m L = false := by unfold ccOk; rw [h, h2]; rfl
      refine (specClose_far x1 y1 x2 y2 n x3 y3 x4 y4 m L h h2 w).mono fun e w' ⟨he, hb⟩ => ⟨.slice none 0 0, by rw [e1]; exact he, ?_, hb⟩
      rw [hno e1]
      exact World.ownsRow_nil _ _ _ _
    · have e1 : ccOk x1 y1 x2 y2 n x3 y3 x4 y4 m L = true := by unfold ccOk; rw [h, h2]; rfl
      obtain ⟨i1, _, i3⟩ := gtog_iff.1 h
      have i4 := isMv_iff.1 i1
      subst i3
      obtain ⟨N, rfl⟩ : ∃ N : Nat, n = (N : Int) := ⟨n.toNat, by omega⟩
      refine (specClose_yes x1 y1 x2 y2 x3 y3 x4 y4 L N h h2 w).mono fun e w' ⟨v, he, ho, hb⟩ => ⟨v, by rw [e1]; exact he, ?_, hb⟩
      have e0 : closeL x1 y1 x2 y2 (N : Int) x3 y3 x4 y4 (N : Int) L = ccs x1 y1 x2 y2 (N : Int) x3 y3 x4 y4 (N : Int) L (N + 1) := by unfold closeL; rw [e1, if_pos rfl, Int.toNat_natCast]
      rw [e0]
      exact ho

set_option maxHeartbeats 1000000 in
theorem close_no (x1 y1 x2 y2 n x3 y3 x4 y4 m L : Int) (h : gtog x1 y1 x2 y2 n x3 y3 x4 y4 m = false) (w : World) :
    Calls Try.prog 24 #[.agg #[.int .i64 x1, .int .i64 y1, .int .i64 x2, .int .i64 y2, .int .i64 n], .agg #[.int .i64 x3, .int .i64 y3, .int .i64 x4, .int .i64 y4, .int .i64 m], .int .i64 L] w fun e w' => e = .returned (.tuple #[.slice none 0 0, .bool false]) ∧ Below w.heap.size w w' := by
  obtain ⟨q1, q2, q3, q4, q5, q6, q7⟩ := nadd
  have HG := Lib.hid (fun W => goTogether_any x1 y1 x2 y2 n x3 y3 x4 y4 m W)
  rw [h] at HG
  clear h
  all_goals
    go_enter Try.func24, Try.ntmps24
    go_wp2_with (first | (go_at_call 58; ((with_reducible refine (HG.out _).mono ?_); rintro e w1 ⟨rfl, hb1⟩; have hs1 := hb1.size; (try simp at hs1); (first | have hk4 := call_facts hl3 hb1 (by first | omega | (simp; done) | (simp; omega)) | skip); (first | have hk3 := call_facts hl2 hb1 (by first | omega | (simp; done) | (simp; omega)) | skip); (first | have hk2 := call_facts hl1 hb1 (by first | omega | (simp; done) | (simp; omega)) | skip); have hk1 := call_facts (fun b h => h) hb1 (Nat.le_refl _); (first | have hl4 := hk4.1 | skip); (first | have hl3 := hk3.1 | skip); (first | have hl2 := hk2.1 | skip); have hl1 := hk1.1)))
    go_ret2
    exact ⟨rfl, (by repeat (first | exact Below.refl _ _ | assumption | refine Below.drew ?_ | refine below_drewN ?_ _ | refine Below.alloc ?_ (by first | omega | (simp; done) | (simp; omega)) _ | refine Below.setCell ?_ (by first | omega | (simp; done) | (simp; omega)) _ | refine Below.trans ?_ (Below.mono (by assumption) (by first | omega | (simp; done) | (simp; omega)))))⟩

set_option maxHeartbeats 1000000 in
theorem close_far (x1 y1 x2 y2 n x3 y3 x4 y4 m L : Int) (h : gtog x1 y1 x2 y2 n x3 y3 x4 y4 m = true) (h2 : inB 0 L 80 = false) (w : World) :
    Calls Try.prog 24 #[.agg #[.int .i64 x1, .int .i64 y1, .int .i64 x2, .int .i64 y2, .int .i64 n], .agg #[.int .i64 x3, .int .i64 y3, .int .i64 x4, .int .i64 y4, .int .i64 m], .int .i64 L] w fun e w' => e = .returned (.tuple #[.slice none 0 0, .bool false]) ∧ Below w.heap.size w w' := by
  obtain ⟨q1, q2, q3, q4, q5, q6, q7⟩ := nadd
  have HG := Lib.hid (fun W => goTogether_any x1 y1 x2 y2 n x3 y3 x4 y4 m W)
  rw [h] at HG
  have HD := Lib.hid (fun W => isLeast_any L W)
  rw [h2] at HD
  clear h h2
  all_goals
    go_enter Try.func24, Try.ntmps24
    go_wp2_with (first | (go_at_call 58; ((with_reducible refine (HG.out _).mono ?_); rintro e w1 ⟨rfl, hb1⟩; have hs1 := hb1.size; (try simp at hs1); (first | have hk4 := call_facts hl3 hb1 (by first | omega | (simp; done) | (simp; omega)) | skip); (first | have hk3 := call_facts hl2 hb1 (by first | omega | (simp; done) | (simp; omega)) | skip); (first | have hk2 := call_facts hl1 hb1 (by first | omega | (simp; done) | (simp; omega)) | skip); have hk1 := call_facts (fun b h => h) hb1 (Nat.le_refl _); (first | have hl4 := hk4.1 | skip); (first | have hl3 := hk3.1 | skip); (first | have hl2 := hk2.1 | skip); have hl1 := hk1.1)) | (go_at_call 69; ((with_reducible refine (HD.out _).mono ?_); rintro e w' ⟨rfl, rfl⟩)))
    go_ret2
    exact ⟨rfl, (by repeat (first | exact Below.refl _ _ | assumption | refine Below.drew ?_ | refine below_drewN ?_ _ | refine Below.alloc ?_ (by first | omega | (simp; done) | (simp; omega)) _ | refine Below.setCell ?_ (by first | omega | (simp; done) | (simp; omega)) _ | refine Below.trans ?_ (Below.mono (by assumption) (by first | omega | (simp; done) | (simp; omega)))))⟩

set_option maxRecDepth 100000 in
set_option maxHeartbeats 4000000 in
theorem close_yes (x1 y1 x2 y2 x3 y3 x4 y4 L : Int) (N : Nat) (h : gtog x1 y1 x2 y2 (N : Int) x3 y3 x4 y4 (N : Int) = true) (h2 : inB 0 L 80 = true) (w : World) :
    Calls Try.prog 24 #[.agg #[.int .i64 x1, .int .i64 y1, .int .i64 x2, .int .i64 y2, .int .i64 (N : Int)], .agg #[.int .i64 x3, .int .i64 y3, .int .i64 x4, .int .i64 y4, .int .i64 (N : Int)], .int .i64 L] w fun e w' => ∃ v, e = .returned (.tuple #[v, .bool true]) ∧ OwnInts w' w.heap.size v (ccs x1 y1 x2 y2 (N : Int) x3 y3 x4 y4 (N : Int) L (N + 1)) ∧ Below w.heap.size w w' := by
  obtain ⟨L0, L1⟩ := inB_iff.1 h2
  have hN := (isMv_iff.1 (gtog_iff.1 h).1).2.2
  obtain ⟨LL, hLL⟩ : ∃ z, IntKind.i64.wrap (L * L) = z := ⟨_, rfl⟩
  have HWK : Hid (∀ (k : Nat), k ≤ N → ∃ A B : Int, (∀ W, Calls Try.prog 60 #[.agg #[.int .i64 x1, .int .i64 y1, .int .i64 x2, .int .i64 y2, .int .i64 (N : Int)], .agg #[.int .i64 x3, .int .i64 y3, .int .i64 x4, .int .i64 y4, .int .i64 (N : Int)], .int .i64 (k : Int)] W fun e w' => e = .returned (.agg #[.int .i64 A, .int .i64 B]) ∧ Below W.heap.size W w') ∧ ∀ W, Calls Try.prog 71 #[.agg #[.int .i64 A, .int .i64 B], .int .i64 L] W fun e w' => e = .returned (.bool (clK x1 y1 x2 y2 (N : Int) x3 y3 x4 y4 (N : Int) L k)) ∧ Below W.heap.size W w') := Lib.hid (by
    intro k hk
    obtain ⟨A, B, f3, f4, hA, hB, hB0, _, _⟩ := sqAt_nat h (show (0 : Int) ≤ (k : Int) by omega) (show (k : Int) ≤ (N : Int) by omega)
    exact ⟨_, _, fun W => squareAt_any x1 y1 x2 y2 (N : Int) x3 y3 x4 y4 (N : Int) (k : Int) h (by omega) (by omega) W, fun W => closer_any _ _ L (by omega) (by omega) (by omega) (by omega) L0 L1 W⟩)
  obtain ⟨q1, q2, q3, q4, q5, q6, q7⟩ := nadd
  obtain ⟨j0, hi, hz0, hz1, hz2⟩ := info_parts Try.infoInt
  have HI := Lib.hid hi
  have HZ0 := Lib.hid hz0
  have HZ1 := Lib.hid hz1
  have HZ2 := Lib.hid hz2
  clear hi hz0 hz1 hz2
  have HG := Lib.hid (fun W => goTogether_any x1 y1 x2 y2 (N : Int) x3 y3 x4 y4 (N : Int) W)
  rw [h] at HG
  have HD := Lib.hid (fun W => isLeast_any L W)
  rw [h2] at HD
  clear h h2
  have v1 : IntKind.i64.wrap ((N : Int) + 1) = (N : Int) + 1 := IntWalk.i64_in _ (by omega)
  go_enter Try.func24, Try.ntmps24
  go_wp2_with (first | (go_at_call 58; ((with_reducible refine (HG.out _).mono ?_); rintro e w1 ⟨rfl, hb1⟩; have hs1 := hb1.size; (try simp at hs1); (first | have hk4 := call_facts hl3 hb1 (by first | omega | (simp; done) | (simp; omega)) | skip); (first | have hk3 := call_facts hl2 hb1 (by first | omega | (simp; done) | (simp; omega)) | skip); (first | have hk2 := call_facts hl1 hb1 (by first | omega | (simp; done) | (simp; omega)) | skip); have hk1 := call_facts (fun b h => h) hb1 (Nat.le_refl _); (first | have hl4 := hk4.1 | skip); (first | have hl3 := hk3.1 | skip); (first | have hl2 := hk2.1 | skip); have hl1 := hk1.1)) | (go_at_call 69; ((with_reducible refine (HD.out _).mono ?_); rintro e w' ⟨rfl, rfl⟩)))
  go_loopw [8, 22] (fun v i wr => ∃ k : Nat, k ≤ N + 1 ∧ i = .int .i64 k ∧ OwnInts wr (w.heap.size + 1 + 1) v (ccs x1 y1 x2 y2 (N : Int) x3 y3 x4 y4 (N : Int) L k) ∧ wr.cell? ⟨w.heap.size, 0, none⟩ = some (.int .i64 x1) ∧ wr.cell? ⟨w.heap.size, 1, none⟩ = some (.int .i64 y1) ∧ wr.cell? ⟨w.heap.size, 2, none⟩ = some (.int .i64 x2) ∧ wr.cell? ⟨w.heap.size, 3, none⟩ = some (.int .i64 y2) ∧ wr.cell? ⟨w.heap.size, 4, none⟩ = some (.int .i64 (N : Int)) ∧ wr.cell? ⟨w.heap.size + 1, 0, none⟩ = some (.int .i64 x3) ∧ wr.cell? ⟨w.heap.size + 1, 1, none⟩ = some (.int .i64 y3) ∧ wr.cell? ⟨w.heap.size + 1, 2, none⟩ = some (.int .i64 x4) ∧ wr.cell? ⟨w.heap.size + 1, 3, none⟩ = some (.int .i64 y4) ∧ wr.cell? ⟨w.heap.size + 1, 4, none⟩ = some (.int .i64 (N : Int)) ∧ Below w.heap.size w wr ∧ w.heap.size + 1 < wr.heap.size) (fun _ i _ => N + 1 - (intOf i).toNat)
  case atStart => exact ⟨0, Nat.zero_le _, rfl, World.ownsRow_nil _ _ _ _, by go_simp, by go_simp, by go_simp, by go_simp, by go_simp, by go_simp, by go_simp, by go_simp, by go_simp, by go_simp, (by repeat (first | exact Below.refl _ _ | assumption | refine Below.drew ?_ | refine below_drewN ?_ _ | refine Below.alloc ?_ (by first | omega | (simp; done) | (simp; omega)) _ | refine Below.setCell ?_ (by first | omega | (simp; done) | (simp; omega)) _ | refine Below.trans ?_ (Below.mono (by assumption) (by first | omega | (simp; done) | (simp; omega))))), (by first | omega | (simp; done) | (simp; omega))⟩
  case round =>
    obtain ⟨k, hk, rfl, hown, c00, c01, c02, c03, c04, c10, c11, c12, c13, c14, hbr, hz⟩ := hrel
    have hsr := hbr.size
    (repeat clear hl1); (repeat clear hl2); (repeat clear hl3); (repeat clear hl4); (repeat clear hk1); (repeat clear hk2); (repeat clear hk3); (repeat clear hk4); (repeat clear hcn); (repeat clear hfn); (repeat clear hln); (repeat clear hz0); (repeat clear hz1); (repeat clear hz2); (repeat clear hs1); (repeat clear hb1)
    by_cases hlt : k < N + 1
    · have hwl := ccs_length x1 y1 x2 y2 (N : Int) x3 y3 x4 y4 (N : Int) L k
      have i0 : (0 : Int) ≤ (k : Int) := by omega
      have i1 : (k : Int) < (N : Int) + 1 := by omega
      have i2 : (k : Int) ≤ (N : Int) := by omega
      obtain ⟨A, B, hK1, hK2⟩ := HWK.out k (by omega)
      have HK1 := Lib.hid hK1
      have HK2 := Lib.hid hK2
      clear hK1 hK2
      cases hc : clK x1 y1 x2 y2 (N : Int) x3 y3 x4 y4 (N : Int) L k
      all_goals rw [hc] at HK2
      · have hnb := ccs_no hc
        have Hnb := Lib.hid hnb
        clear hnb hc
        go_wp2_with (first | (go_at_call 60; ((with_reducible refine (HK1.out _).mono ?_); rintro e wa ⟨rfl, hba⟩)) | (go_at_call 71; ((with_reducible refine (HK2.out _).mono ?_); rintro e w1 ⟨rfl, hbb⟩; have hb1 : Below wr.heap.size wr w1 := hba.trans (hbb.mono hba.size); clear hba hbb; have hs1 := hb1.size)))
        go_roundw
        case rel => exact ⟨k + 1, by omega, by go_num, by rw [Hnb.out]; exact own_below hown hb1, (hb1.cell (p := ⟨w.heap.size, 0, none⟩) (by first | omega | (simp; done) | (simp; omega))).trans c00, (hb1.cell (p := ⟨w.heap.size, 1, none⟩) (by first | omega | (simp; done) | (simp; omega))).trans c01, (hb1.cell (p := ⟨w.heap.size, 2, none⟩) (by first | omega | (simp; done) | (simp; omega))).trans c02, (hb1.cell (p := ⟨w.heap.size, 3, none⟩) (by first | omega | (simp; done) | (simp; omega))).trans c03, (hb1.cell (p := ⟨w.heap.size, 4, none⟩) (by first | omega | (simp; done) | (simp; omega))).trans c04, (hb1.cell (p := ⟨w.heap.size + 1, 0, none⟩) (by first | omega | (simp; done) | (simp; omega))).trans c10, (hb1.cell (p := ⟨w.heap.size + 1, 1, none⟩) (by first | omega | (simp; done) | (simp; omega))).trans c11, (hb1.cell (p := ⟨w.heap.size + 1, 2, none⟩) (by first | omega | (simp; done) | (simp; omega))).trans c12, (hb1.cell (p := ⟨w.heap.size + 1, 3, none⟩) (by first | omega | (simp; done) | (simp; omega))).trans c13, (hb1.cell (p := ⟨w.heap.size + 1, 4, none⟩) (by first | omega | (simp; done) | (simp; omega))).trans c14, hbr.trans (hb1.mono (by first | omega | (simp; done) | (simp; omega))), Nat.lt_of_lt_of_le hz hb1.size⟩
        case measure => simp [intOf]; omega
      · have hnb := ccs_yes hc
        have Hnb := Lib.hid hnb
        clear hnb hc
        go_wp2_with (first | (at_builtin; refine wpList_append_own _ rfl _ _ 37 rfl (w.heap.size + 1 + 1) 3 j0 (.int .i64 0) 1 8 Try.underlying37 HI.out HZ0.out HZ1.out HZ2.out rfl (by decide) _ _ _ rfl ((own_below hown hb1).alloc _) ⟨w1.heap.size, 0, none⟩ 1 1 [.int .i64 (k : Int)] rfl rfl ?c1 ?c2 ?c3 ?c4 ?c5 ?_) | (go_at_call 60; ((with_reducible refine (HK1.out _).mono ?_); rintro e wa ⟨rfl, hba⟩)) | (go_at_call 71; ((with_reducible refine (HK2.out _).mono ?_); rintro e w1 ⟨rfl, hbb⟩; have hb1 : Below wr.heap.size wr w1 := hba.trans (hbb.mono hba.size); clear hba hbb; have hs1 := hb1.size)))
        case c1 =>
          intro j u hj
          match j, hj with
          | 0, hj => simp at hj; subst hj; simp [Addr.add]
        case c2 => intro u hu; simp at hu; subst hu; rfl
        case c3 => unfold maxLen; omega
        case c4 => omega
        case c5 => simp; omega
        intro v' w2 hown' hgrow _
        have hst := own_stepI (w := w) (base := w.heap.size) (hbr.trans (hb1.mono (by first | omega | (simp; done) | (simp; omega)))) (Nat.le_trans hz hb1.size) (by omega) (own_below hown hb1) hown' hgrow
        obtain ⟨ho2, hb2, hc2, hz2⟩ := hst
        have z00 := hc2 _ _ _ (by omega) (show w1.cell? ⟨w.heap.size, 0, none⟩ = some (.int .i64 x1) from (hb1.cell (p := ⟨w.heap.size, 0, none⟩) (by first | omega | (simp; done) | (simp; omega))).trans c00)
        have z01 := hc2 _ _ _ (by omega) (show w1.cell? ⟨w.heap.size, 1, none⟩ = some (.int .i64 y1) from (hb1.cell (p := ⟨w.heap.size, 1, none⟩) (by first | omega | (simp; done) | (simp; omega))).trans c01)
        have z02 := hc2 _ _ _ (by omega) (show w1.cell? ⟨w.heap.size, 2, none⟩ = some (.int .i64 x2) from (hb1.cell (p := ⟨w.heap.size, 2, none⟩) (by first | omega | (simp; done) | (simp; omega))).trans c02)
        have z03 := hc2 _ _ _ (by omega) (show w1.cell? ⟨w.heap.size, 3, none⟩ = some (.int .i64 y2) from (hb1.cell (p := ⟨w.heap.size, 3, none⟩) (by first | omega | (simp; done) | (simp; omega))).trans c03)
        have z04 := hc2 _ _ _ (by omega) (show w1.cell? ⟨w.heap.size, 4, none⟩ = some (.int .i64 (N : Int)) from (hb1.cell (p := ⟨w.heap.size, 4, none⟩) (by first | omega | (simp; done) | (simp; omega))).trans c04)
        have z10 := hc2 _ _ _ (by omega) (show w1.cell? ⟨w.heap.size + 1, 0, none⟩ = some (.int .i64 x3) from (hb1.cell (p := ⟨w.heap.size + 1, 0, none⟩) (by first | omega | (simp; done) | (simp; omega))).trans c10)
        have z11 := hc2 _ _ _ (by omega) (show w1.cell? ⟨w.heap.size + 1, 1, none⟩ = some (.int .i64 y3) from (hb1.cell (p := ⟨w.heap.size + 1, 1, none⟩) (by first | omega | (simp; done) | (simp; omega))).trans c11)
        have z12 := hc2 _ _ _ (by omega) (show w1.cell? ⟨w.heap.size + 1, 2, none⟩ = some (.int .i64 x4) from (hb1.cell (p := ⟨w.heap.size + 1, 2, none⟩) (by first | omega | (simp; done) | (simp; omega))).trans c12)
        have z13 := hc2 _ _ _ (by omega) (show w1.cell? ⟨w.heap.size + 1, 3, none⟩ = some (.int .i64 y4) from (hb1.cell (p := ⟨w.heap.size + 1, 3, none⟩) (by first | omega | (simp; done) | (simp; omega))).trans c13)
        have z14 := hc2 _ _ _ (by omega) (show w1.cell? ⟨w.heap.size + 1, 4, none⟩ = some (.int .i64 (N : Int)) from (hb1.cell (p := ⟨w.heap.size + 1, 4, none⟩) (by first | omega | (simp; done) | (simp; omega))).trans c14)
        have zz : w.heap.size + 1 < w2.heap.size := Nat.lt_of_lt_of_le hz (Nat.le_trans hb1.size (Nat.le_of_lt hz2))
        clear hown' hgrow hc2 hown
        (repeat clear hl1); (repeat clear hl2); (repeat clear hl3); (repeat clear hl4); (repeat clear hk1); (repeat clear hk2); (repeat clear hk3); (repeat clear hk4); (repeat clear hcn); (repeat clear hfn); (repeat clear hln); (repeat clear hz0); (repeat clear hz1); (repeat clear hz2); (repeat clear hs1); (repeat clear hb1)
        go_wp2
        go_roundw
        case rel => exact ⟨k + 1, by omega, by go_num, by rw [Hnb.out]; exact ho2, z00, z01, z02, z03, z04, z10, z11, z12, z13, z14, hb2, zz⟩
        case measure => simp [intOf]; omega
    · obtain rfl : k = N + 1 := by omega
      have i3 : ¬ (((N + 1 : Nat) : Int) ≤ (N : Int)) := by omega
      have i4 : ¬ (((N + 1 : Nat) : Int) < (N : Int) + 1) := by omega
      go_wp2
      go_ret2
      exact ⟨_, rfl, own_mono hown (by omega), (by repeat (first | exact Below.refl _ _ | assumption | refine Below.drew ?_ | refine below_drewN ?_ _ | refine Below.alloc ?_ (by first | omega | (simp; done) | (simp; omega)) _ | refine Below.setCell ?_ (by first | omega | (simp; done) | (simp; omega)) _ | refine Below.trans ?_ (Below.mono (by assumption) (by first | omega | (simp; done) | (simp; omega)))))⟩

theorem close_any (x1 y1 x2 y2 n x3 y3 x4 y4 m L : Int) (w : World) :
    Calls Try.prog 24 #[.agg #[.int .i64 x1, .int .i64 y1, .int .i64 x2, .int .i64 y2, .int .i64 n], .agg #[.int .i64 x3, .int .i64 y3, .int .i64 x4, .int .i64 y4, .int .i64 m], .int .i64 L] w (ClosePost x1 y1 x2 y2 n x3 y3 x4 y4 m L w) := by
  have hno : ccOk x1 y1 x2 y2 n x3 y3 x4 y4 m L = false → closeL x1 y1 x2 y2 n x3 y3 x4 y4 m L = [] := fun e => by unfold closeL; rw [e]; rfl
  cases h : gtog x1 y1 x2 y2 n x3 y3 x4 y4 m
  · have e1 : ccOk x1 y1 x2 y2 n x3 y3 x4 y4 m L = false := by unfold ccOk; rw [h]; rfl
    refine (close_no x1 y1 x2 y2 n x3 y3 x4 y4 m L h w).mono fun e w' ⟨he, hb⟩ => ⟨.slice none 0 0, by rw [e1]; exact he, ?_, hb⟩
    rw [hno e1]
    exact World.ownsRow_nil _ _ _ _
  · cases h2 : inB 0 L 80
    · have e1 : ccOk x1 y1 x2 y2 n x3 y3 x4 y4 m L = false := by unfold ccOk; rw [h, h2]; rfl
      refine (close_far x1 y1 x2 y2 n x3 y3 x4 y4 m L h h2 w).mono fun e w' ⟨he, hb⟩ => ⟨.slice none 0 0, by rw [e1]; exact he, ?_, hb⟩
      rw [hno e1]
      exact World.ownsRow_nil _ _ _ _
    · have e1 : ccOk x1 y1 x2 y2 n x3 y3 x4 y4 m L = true := by unfold ccOk; rw [h, h2]; rfl
      obtain ⟨i1, _, i3⟩ := gtog_iff.1 h
      have i4 := isMv_iff.1 i1
      subst i3
      obtain ⟨N, rfl⟩ : ∃ N : Nat, n = (N : Int) := ⟨n.toNat, by omega⟩
      refine (close_yes x1 y1 x2 y2 x3 y3 x4 y4 L N h h2 w).mono fun e w' ⟨v, he, ho, hb⟩ => ⟨v, by rw [e1]; exact he, ?_, hb⟩
      have e0 : closeL x1 y1 x2 y2 (N : Int) x3 y3 x4 y4 (N : Int) L = ccs x1 y1 x2 y2 (N : Int) x3 y3 x4 y4 (N : Int) L (N + 1) := by unfold closeL; rw [e1, if_pos rfl, Int.toNat_natCast]
      rw [e0]
      exact ho

end Go.Proofs.Ytjojjmmdgldcbaa
