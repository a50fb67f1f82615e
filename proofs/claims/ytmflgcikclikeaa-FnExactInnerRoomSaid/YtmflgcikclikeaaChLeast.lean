/- The least square of a chart: plain mathematics, and the other side. No conditions but those written in each theorem. -/
import Derived.Test.YtmflgcikclikeaaChIf
import Derived.Deep.RegionHeld3
import Derived.Deep.DrawnRows
import Derived.IntWalk
import Derived.Laws.AppendOwn
import Derived.Deep.AppendLies
import Derived.StillTailTactics
namespace Go.Proofs.Ytmflgcikclikeaa
open Go.RowKit


attribute [local go_sem ↓] Go.wp_at_zero Go.wp_at_succ

/-- The square of two spots of a list. -/
def sqp (l : List (Int × Int)) (i k : Nat) : Int := sqr (sx l i) (sy l i) (sx l k) (sy l k)
theorem sqp_bound {l : List (Int × Int)} (h : allOn l = true) {i k : Nat} (hi : i < l.length) (hk : k < l.length) : 0 ≤ sqp l i k ∧ sqp l i k ≤ 2089984 := sqr_bound (allOn_at h i hi) (allOn_at h k hk)
/-- The first pair with the least square so far: first, second, square (-1: none). -/
structure Bst where
  a : Nat
  b : Nat
  n : Int
def stepB (l : List (Int × Int)) (i k : Nat) (s : Bst) : Bst := if s.n < 0 ∨ sqp l i k < s.n then ⟨i, k, sqp l i k⟩ else s
/-- .. after m spots behind spot i. -/
def inB2 (l : List (Int × Int)) (i : Nat) (s : Bst) : Nat → Bst
  | 0 => s
  | m + 1 => stepB l i (i + 1 + m) (inB2 l i s m)
/-- .. after i spots. -/
def outB (l : List (Int × Int)) : Nat → Bst
  | 0 => ⟨0, 0, -1⟩
  | i + 1 => inB2 l i (outB l i) (l.length - (i + 1))
def bestB (l : List (Int × Int)) : Bst := outB l l.length
theorem stepB_yes {l : List (Int × Int)} {i k : Nat} {s : Bst} (h : s.n < 0 ∨ sqp l i k < s.n) : stepB l i k s = ⟨i, k, sqp l i k⟩ := if_pos h
theorem stepB_no {l : List (Int × Int)} {i k : Nat} {s : Bst} (h : ¬ (s.n < 0 ∨ sqp l i k < s.n)) : stepB l i k s = s := if_neg h
/-- What such a state is worth. -/
def Fine (l : List (Int × Int)) (s : Bst) : Prop := (s.n = -1 ∧ s.a = 0 ∧ s.b = 0) ∨ (0 ≤ s.n ∧ s.n ≤ 2089984 ∧ s.a < s.b ∧ s.b < l.length ∧ s.n = sqp l s.a s.b)
theorem Fine.step {l : List (Int × Int)} (h : allOn l = true) {i k : Nat} (hik : i < k) (hk : k < l.length) {s : Bst} (hs : Fine l s) : Fine l (stepB l i k s) ∧ (stepB l i k s).n ≤ sqp l i k ∧ 0 ≤ (stepB l i k s).n ∧ (0 ≤ s.n → (stepB l i k s).n ≤ s.n) := by
  have hb := sqp_bound h (i := i) (k := k) (by omega) hk
  by_cases c : s.n < 0 ∨ sqp l i k < s.n
  · rw [stepB_yes c]
    exact ⟨.inr ⟨hb.1, hb.2, hik, hk, rfl⟩, Int.le_refl _, hb.1, fun h0 => by rcases c with c | c <;> simp only <;> omega⟩
  · rw [stepB_no c]
    refine ⟨hs, by omega, ?_, fun _ => Int.le_refl _⟩
    rcases hs with hs | hs <;> omega
theorem Fine.inn {l : List (Int × Int)} (h : allOn l = true) {i : Nat} {s : Bst} (hs : Fine l s) : ∀ m, i + 1 + m ≤ l.length → Fine l (inB2 l i s m) ∧ (∀ j, j < m → (inB2 l i s m).n ≤ sqp l i (i + 1 + j)) ∧ (1 ≤ m → 0 ≤ (inB2 l i s m).n) ∧ (0 ≤ s.n → 0 ≤ (inB2 l i s m).n ∧ (inB2 l i s m).n ≤ s.n)
  | 0, _ => ⟨hs, fun j hj => absurd hj (Nat.not_lt_zero j), fun h => absurd h (by omega), fun h0 => ⟨h0, Int.le_refl _⟩⟩
  | m + 1, hm => by
    obtain ⟨f1, f2, f3, f4⟩ := Fine.inn h (i := i) hs m (by omega)
    obtain ⟨g1, g2, g3, g4⟩ := Fine.step h (i := i) (k := i + 1 + m) (by omega) (by omega) f1
    rw [inB2]
    refine ⟨g1, fun j hj => ?_, fun _ => g3, fun h0 => ⟨g3, ?_⟩⟩
    · by_cases e : j = m
      · subst e; exact g2
      · have h5 := f2 j (by omega)
        have h6 := g4 (f3 (by omega))
        omega
    · have := f4 h0
      have := g4 this.1
      omega
theorem Fine.out {l : List (Int × Int)} (h : allOn l = true) : ∀ i, i ≤ l.length → Fine l (outB l i) ∧ (∀ a b, a < i → a < b → b < l.length → (outB l i).n ≤ sqp l a b ∧ 0 ≤ (outB l i).n)
  | 0, _ => ⟨.inl ⟨rfl, rfl, rfl⟩, fun a b ha => absurd ha (Nat.not_lt_zero a)⟩
  | i + 1, hi => by
    obtain ⟨f1, f2⟩ := Fine.out h i (by omega)
    obtain ⟨g1, g2, g3, g4⟩ := Fine.inn h (i := i) f1 (l.length - (i + 1)) (by omega)
    rw [outB]
    refine ⟨g1, fun a b ha hab hb => ?_⟩
    by_cases e : a = i
    · subst e
      have := g2 (b - (a + 1)) (by omega)
      rw [show a + 1 + (b - (a + 1)) = b by omega] at this
      exact ⟨this, g3 (by omega)⟩
    · have h5 := f2 a b (by omega) hab hb
      have h6 := g4 h5.2
      omega
/-- The least square of a list of at least two spots. -/
def leastV (l : List (Int × Int)) : Int := (bestB l).n
def IsLeast (l : List (Int × Int)) (v : Int) : Prop := (∀ i k, i < k → k < l.length → v ≤ sqp l i k) ∧ ∃ i k, i < k ∧ k < l.length ∧ v = sqp l i k
theorem leastV_is {l : List (Int × Int)} (h : allOn l = true) (h2 : 2 ≤ l.length) : IsLeast l (leastV l) ∧ 0 ≤ leastV l ∧ leastV l ≤ 2089984 := by
  obtain ⟨f1, f2⟩ := Fine.out h l.length (Nat.le_refl _)
  have h0 := f2 0 1 (by omega) (by omega) (by omega)
  unfold leastV bestB
  rcases f1 with f1 | f1
  · omega
  · exact ⟨⟨fun i k hik hk => (f2 i k (by omega) hik hk).1, _, _, f1.2.2.1, f1.2.2.2.1, f1.2.2.2.2⟩, f1.1, f1.2.1⟩
theorem leastV_one {l : List (Int × Int)} (h1 : l.length = 1) : leastV l = -1 := by
  unfold leastV bestB
  rw [h1]
  show (inB2 l 0 (outB l 0) (l.length - (0 + 1))).n = -1
  rw [h1]
  rfl
theorem IsLeast.eq {l : List (Int × Int)} {u v : Int} (hu : IsLeast l u) (hv : IsLeast l v) : u = v := by
  obtain ⟨i, k, h1, h2, h3⟩ := hu.2
  obtain ⟨i', k', g1, g2, g3⟩ := hv.2
  have a := hu.1 i' k' g1 g2
  have b := hv.1 i k h1 h2
  omega

set_option maxRecDepth 100000 in
set_option maxHeartbeats 4000000 in
theorem chLeast_any (a : Option Addr) (cap : Nat) (l : List (Int × Int)) (hl : l.length ≤ 1048576) (hon : allOn l = true) {w : World} (ha : PairsAt w a l) :
    Calls Try.prog 10 #[.slice a l.length cap] w fun e w' => e = .returned (.tuple #[.int .i64 (bestB l).a, .int .i64 (bestB l).b, .int .i64 (bestB l).n]) ∧ Below w.heap.size w w' := by
  have HA := Lib.hid ha
  have HON := Lib.hid hon
  clear ha hon
  go_enter Try.func10, Try.ntmps10
  go_wp2
  go_loopw [5, 6, 7, 14] (fun fs sn ls i wr => ∃ (k : Nat) (s : Bst), k ≤ l.length ∧ i = .int .i64 k ∧ fs = .int .i64 s.a ∧ sn = .int .i64 s.b ∧ ls = .int .i64 s.n ∧ Hid (s = outB l k) ∧ Below w.heap.size w wr) (fun _ _ _ i _ => l.length - (intOf i).toNat)
  case atStart => exact ⟨0, ⟨0, 0, -1⟩, Nat.zero_le _, rfl, rfl, rfl, rfl, Lib.hid rfl, Below.refl _ _⟩
  case round =>
    obtain ⟨k, s, hk, rfl, rfl, rfl, rfl, HS, hbr⟩ := hrel
    obtain ⟨wo, rfl⟩ : ∃ wo, wo = wr := ⟨_, rfl⟩
    have hsr := hbr.size
    by_cases hlt : k < l.length
    · obtain ⟨b, off, rfl, c0, c1⟩ := (HA.out.below hbr) k hlt
      have HOUT := Lib.hid (show outB l (k + 1) = inB2 l k (outB l k) (l.length - (k + 1)) from rfl)
      have v1 : IntKind.i64.wrap ((k : Int) + 1) = (k : Int) + 1 := IntWalk.i64_in _ (by omega)
      go_wp2
      have d0 : (wo.alloc (.cells #[.int .i64 (sx l k), .int .i64 (sy l k)] 35)).cell? ⟨wo.heap.size, 0, none⟩ = some (.int .i64 (sx l k)) := by rw [World.cell?_alloc_at _ _ _ _ rfl]; rfl
      have d1 : (wo.alloc (.cells #[.int .i64 (sx l k), .int .i64 (sy l k)] 35)).cell? ⟨wo.heap.size, 1, none⟩ = some (.int .i64 (sy l k)) := by rw [World.cell?_alloc_at _ _ _ _ rfl]; rfl
      have hb0 : Below w.heap.size w (wo.alloc (.cells #[.int .i64 (sx l k), .int .i64 (sy l k)] 35)) := (by repeat (first | exact Below.refl _ _ | assumption | refine Below.drew ?_ | refine below_drewN ?_ _ | refine Below.alloc ?_ (by first | omega | (simp; done) | (simp; omega)) _ | refine Below.setCell ?_ (by first | omega | (simp; done) | (simp; omega)) _ | refine Below.trans ?_ (Below.mono (by assumption) (by first | omega | (simp; done) | (simp; omega)))))
      go_loopw [5, 6, 7, 10] (fun fs sn ls i wr => ∃ (m : Nat) (t : Bst), k + 1 + m ≤ l.length ∧ i = .int .i64 ((k + 1 + m : Nat) : Int) ∧ fs = .int .i64 t.a ∧ sn = .int .i64 t.b ∧ ls = .int .i64 t.n ∧ Hid (t = inB2 l k (outB l k) m) ∧ wr.cell? ⟨wo.heap.size, 0, none⟩ = some (.int .i64 (sx l k)) ∧ wr.cell? ⟨wo.heap.size, 1, none⟩ = some (.int .i64 (sy l k)) ∧ Below w.heap.size w wr) (fun _ _ _ i _ => l.length - (intOf i).toNat)
      case atStart => exact ⟨0, s, by omega, by go_num, rfl, rfl, rfl, Lib.hid (by rw [HS.out]; rfl), d0, d1, hb0⟩
      case round =>
        clear d0 d1 hb0 c0 c1 hbr hsr v1
        obtain ⟨m, t, hm, rfl, rfl, rfl, rfl, HT, d0, d1, hbr⟩ := hrel
        have hsr := hbr.size
        by_cases hlm : k + 1 + m < l.length
        · obtain ⟨b', off', hbb, c2, c3⟩ := (HA.out.below hbr) (k + 1 + m) hlm
          simp only [Option.some.injEq, Addr.mk.injEq] at hbb
          obtain ⟨hx1, hx2, _⟩ := hbb
          subst hx1 hx2
          have HST := Lib.hid (show inB2 l k (outB l k) (m + 1) = stepB l k (k + 1 + m) (inB2 l k (outB l k) m) from rfl)
          have hfi := (Fine.inn HON.out (i := k) (Fine.out HON.out k hk).1 m hm).1
          rw [← HT.out] at hfi
          obtain ⟨sb1, sb2⟩ := sqp_bound HON.out hlt hlm
          have HSQ := Lib.hid (fun W => show Calls Try.prog 18 #[.agg #[.int .i64 (sx l k), .int .i64 (sy l k)], .agg #[.int .i64 (sx l (k + 1 + m)), .int .i64 (sy l (k + 1 + m))]] W fun e w' => e = .returned (.int .i64 (sqp l k (k + 1 + m))) ∧ Below W.heap.size W w' from stSquare_any _ _ _ _ (allOn_at HON.out k hlt) (allOn_at HON.out _ hlm) W)
          have hcs : (t.n < 0 ∨ sqp l k (k + 1 + m) < t.n) ∨ ¬ (t.n < 0 ∨ sqp l k (k + 1 + m) < t.n) := Classical.em _
          have hfb : -1 ≤ t.n ∧ t.n ≤ 2089984 ∧ t.a ≤ 1048576 ∧ t.b ≤ 1048576 := by rcases hfi with hf | hf <;> omega
          obtain ⟨n1, n2, n3, n4⟩ := hfb
          have HSY := Lib.hid (fun c => stepB_yes (l := l) (i := k) (k := k + 1 + m) (s := t) c)
          have HSN := Lib.hid (fun c => stepB_no (l := l) (i := k) (k := k + 1 + m) (s := t) c)
          obtain ⟨q, hq⟩ : ∃ q, q = sqp l k (k + 1 + m) := ⟨_, rfl⟩
          rw [← hq] at HSQ HSY HSN sb1 sb2 hcs
          have j0 : (0 : Int) ≤ ((k + 1 + m : Nat) : Int) := by omega
          have j1 : ((k + 1 + m : Nat) : Int) < (l.length : Int) := by omega
          clear hfi hq
          obtain ⟨K, hK⟩ : ∃ K, K = k + 1 + m := ⟨_, rfl⟩
          rw [← hK] at c2 c3 HSQ HSY j0 j1 ⊢
          have HKK := Lib.hid hK
          have hKl : K < l.length := by omega
          have v3 : IntKind.i64.wrap ((K : Int) + 1) = (K : Int) + 1 := IntWalk.i64_in _ (by omega)
          have v4 : IntKind.i64.wrap (q + 1) = q + 1 := IntWalk.i64_in _ (by omega)
          clear hK hlm hm
          have hT2 := HT.out
          obtain ⟨ta, tb, tn⟩ := t
          simp only at n1 n2 n3 n4 hcs HSY HSN ⊢
          have hds : (tn < 0) ∨ (¬ tn < 0 ∧ q < tn) ∨ (¬ tn < 0 ∧ ¬ q < tn) := by omega
          have HUP := Lib.hid (fun (c : tn < 0 ∨ q < tn) => show (⟨k, K, q⟩ : Bst) = inB2 l k (outB l k) (m + 1) from by rw [HST.out, ← HT.out, ← HKK.out]; exact (HSY.out c).symm)
          have HNO := Lib.hid (fun (c : ¬ (tn < 0 ∨ q < tn)) => show (⟨ta, tb, tn⟩ : Bst) = inB2 l k (outB l k) (m + 1) from by rw [HST.out, ← HT.out]; exact (HSN.out c).symm)
          have hwo : wo.heap.size < wr.heap.size := World.block_lt_of_cell? _ _ d0
          clear hT2 hcs HSY HSN
          rcases hds with c | ⟨c, c2⟩ | ⟨c, c2⟩
          · have HN := Lib.hid (HUP.out (.inl c))
            clear HUP HNO
            go_wp2_with fail
            refine wp_region_still_tail 5 (by kernel_rfl) (by kernel_rfl) ?_
            simp only [List.take_succ_cons, List.take_zero, List.drop_succ_cons, List.drop_zero]
            change wpStill _ _ (World.drew _) _ _ _
            repeat (first | still_step)
            refine wpStill_nil ?_
            change wpList _ _ _ _ _ (World.drew _)
            go_wp2_with (go_at_call 18; ((with_reducible refine (HSQ.out _).mono ?_); rintro e w3 ⟨rfl, hb3⟩; have hs3 := hb3.size; (try simp at hs3); have q0 : w3.cell? ⟨wo.heap.size, 0, none⟩ = some (.int .i64 (sx l k)) := (hb3.cell (p := ⟨wo.heap.size, 0, none⟩) (by first | omega | (simp; done) | (simp; omega))).trans (by go_simp); have q1 : w3.cell? ⟨wo.heap.size, 1, none⟩ = some (.int .i64 (sy l k)) := (hb3.cell (p := ⟨wo.heap.size, 1, none⟩) (by first | omega | (simp; done) | (simp; omega))).trans (by go_simp)))
            go_roundw
            case rel => exact ⟨m + 1, ⟨k, K, q⟩, by have := HKK.out; omega, by have := HKK.out; go_num, rfl, rfl, rfl, HN, q0, q1, (by repeat (first | exact Below.refl _ _ | assumption | refine Below.drew ?_ | refine below_drewN ?_ _ | refine Below.alloc ?_ (by first | omega | (simp; done) | (simp; omega)) _ | refine Below.setCell ?_ (by first | omega | (simp; done) | (simp; omega)) _ | refine Below.trans ?_ (Below.mono (by assumption) (by first | omega | (simp; done) | (simp; omega)))))⟩
            case measure => simp [intOf]; omega
          · have HN := Lib.hid (HUP.out (.inr c2))
            clear HUP HNO
            go_wp2_with fail
            refine wp_region_still_tail 5 (by kernel_rfl) (by kernel_rfl) ?_
            simp only [List.take_succ_cons, List.take_zero, List.drop_succ_cons, List.drop_zero]
            change wpStill _ _ (World.drew _) _ _ _
            repeat (first | still_step)
            refine wpStill_nil ?_
            change wpList _ _ _ _ _ (World.drew _)
            go_wp2_with (go_at_call 18; ((with_reducible refine (HSQ.out _).mono ?_); rintro e w3 ⟨rfl, hb3⟩; have hs3 := hb3.size; (try simp at hs3); have q0 : w3.cell? ⟨wo.heap.size, 0, none⟩ = some (.int .i64 (sx l k)) := (hb3.cell (p := ⟨wo.heap.size, 0, none⟩) (by first | omega | (simp; done) | (simp; omega))).trans (by go_simp); have q1 : w3.cell? ⟨wo.heap.size, 1, none⟩ = some (.int .i64 (sy l k)) := (hb3.cell (p := ⟨wo.heap.size, 1, none⟩) (by first | omega | (simp; done) | (simp; omega))).trans (by go_simp)))
            go_roundw
            case rel => exact ⟨m + 1, ⟨k, K, q⟩, by have := HKK.out; omega, by have := HKK.out; go_num, rfl, rfl, rfl, HN, q0, q1, (by repeat (first | exact Below.refl _ _ | assumption | refine Below.drew ?_ | refine below_drewN ?_ _ | refine Below.alloc ?_ (by first | omega | (simp; done) | (simp; omega)) _ | refine Below.setCell ?_ (by first | omega | (simp; done) | (simp; omega)) _ | refine Below.trans ?_ (Below.mono (by assumption) (by first | omega | (simp; done) | (simp; omega)))))⟩
            case measure => simp [intOf]; omega
          · have HN := Lib.hid (HNO.out (by omega))
            clear HUP HNO
            go_wp2_with fail
            refine wp_region_still_tail 5 (by kernel_rfl) (by kernel_rfl) ?_
            simp only [List.take_succ_cons, List.take_zero, List.drop_succ_cons, List.drop_zero]
            change wpStill _ _ (World.drew _) _ _ _
            repeat (first | still_step)
            refine wpStill_nil ?_
            change wpList _ _ _ _ _ (World.drew _)
            go_wp2_with (go_at_call 18; ((with_reducible refine (HSQ.out _).mono ?_); rintro e w3 ⟨rfl, hb3⟩; have hs3 := hb3.size; (try simp at hs3); have q0 : w3.cell? ⟨wo.heap.size, 0, none⟩ = some (.int .i64 (sx l k)) := (hb3.cell (p := ⟨wo.heap.size, 0, none⟩) (by first | omega | (simp; done) | (simp; omega))).trans (by go_simp); have q1 : w3.cell? ⟨wo.heap.size, 1, none⟩ = some (.int .i64 (sy l k)) := (hb3.cell (p := ⟨wo.heap.size, 1, none⟩) (by first | omega | (simp; done) | (simp; omega))).trans (by go_simp)))
            go_roundw
            case rel => exact ⟨m + 1, ⟨ta, tb, tn⟩, by have := HKK.out; omega, by have := HKK.out; go_num, rfl, rfl, rfl, HN, q0, q1, (by repeat (first | exact Below.refl _ _ | assumption | refine Below.drew ?_ | refine below_drewN ?_ _ | refine Below.alloc ?_ (by first | omega | (simp; done) | (simp; omega)) _ | refine Below.setCell ?_ (by first | omega | (simp; done) | (simp; omega)) _ | refine Below.trans ?_ (Below.mono (by assumption) (by first | omega | (simp; done) | (simp; omega)))))⟩
            case measure => simp [intOf]; omega
        · have hme : m = l.length - (k + 1) := by omega
          have HN := Lib.hid (show t = outB l (k + 1) from by rw [HOUT.out, ← hme]; exact HT.out)
          have j9 : ((k + 1 + m : Nat) : Int) = (l.length : Int) := by omega
          have j8 : ¬ (((k + 1 + m : Nat) : Int) < (l.length : Int)) := by omega
          clear hme j9
          obtain ⟨K, hK⟩ : ∃ K, K = k + 1 + m := ⟨_, rfl⟩
          rw [← hK] at j8 ⊢
          have hKl : ¬ K < l.length := by omega
          have v9 : IntKind.i64.wrap ((k : Int) + 1) = (k : Int) + 1 := IntWalk.i64_in _ (by omega)
          clear hK hlm hm
          go_wp2
          go_roundw
          case rel => exact ⟨k + 1, t, by omega, by go_num, rfl, rfl, rfl, HN, (by repeat (first | exact Below.refl _ _ | assumption | refine Below.drew ?_ | refine below_drewN ?_ _ | refine Below.alloc ?_ (by first | omega | (simp; done) | (simp; omega)) _ | refine Below.setCell ?_ (by first | omega | (simp; done) | (simp; omega)) _ | refine Below.trans ?_ (Below.mono (by assumption) (by first | omega | (simp; done) | (simp; omega)))))⟩
          case measure => simp [intOf]; omega
    · obtain rfl : k = l.length := by omega
      have HE := Lib.hid (show bestB l = s from HS.out.symm)
      go_wp2
      go_ret3
      exact ⟨by rw [HE.out]; rfl, (by repeat (first | exact Below.refl _ _ | assumption | refine Below.drew ?_ | refine below_drewN ?_ _ | refine Below.alloc ?_ (by first | omega | (simp; done) | (simp; omega)) _ | refine Below.setCell ?_ (by first | omega | (simp; done) | (simp; omega)) _ | refine Below.trans ?_ (Below.mono (by assumption) (by first | omega | (simp; done) | (simp; omega)))))⟩

end Go.Proofs.Ytmflgcikclikeaa
