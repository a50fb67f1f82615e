/- Music, as the program reads it: CountAt, by the library's Search. No conditions but those written in each theorem. -/
import Derived.Test.YtbpphcdhbbhjpaaMuImpl
import Derived.Deep.RegionHeld3
import Derived.Deep.DrawnRows
import Derived.IntWalk
import Derived.Deep.LoopGhost
import Derived.Shelf.Abstract
namespace Go.Proofs.Ytbpphcdhbbhjpaa
open Go.RowKit


attribute [local go_sem ↓] Go.wp_at_zero Go.wp_at_succ

set_option maxHeartbeats 4000000 in
theorem search_any (g : Nat) (cb : Array Value) (n r : Nat) (p : Nat → Bool) (w : World) (eg : ∀ args w, (callFunc g args).run Try.prog w = .ok (.enter g args) w) (hn : n ≤ 1000000) (hr : r ≤ n)
    (hf : ∀ (W : World), Below w.heap.size w W → ∀ i : Nat, i < n → Calls Try.prog g (#[.int .i64 i] ++ cb) W fun e w' => e = .returned (.bool (p i)) ∧ Below W.heap.size W w')
    (hlo : ∀ t, t < r → p t = false) (hhi : ∀ t, r ≤ t → t < n → p t = true) :
    Calls Try.prog 55 #[.int .i64 n, .func (.func g) #[] cb] w fun e w' => e = .returned (.int .i64 r) ∧ Below w.heap.size w w' := by
  have HF := Lib.hid hf
  have HL := Lib.hid hlo
  have HH := Lib.hid hhi
  clear hf hlo hhi
  go_enter Try.func55, Try.ntmps55
  go_wp2
  go_loopg [5, 6] n (fun kx s5 s6 wr => ∃ (lo hi : Nat), s5 = .int .i64 lo ∧ s6 = .int .i64 hi ∧ lo ≤ r ∧ r ≤ hi ∧ hi ≤ n ∧ hi - lo ≤ kx ∧ Below w.heap.size w wr)
  case atStart => exact ⟨0, n, rfl, rfl, Nat.zero_le _, hr, Nat.le_refl _, by omega, Below.refl _ _⟩
  case round =>
    obtain ⟨lo, hi, rfl, rfl, h1, h2, h3, hg, hbr⟩ := hrel
    have hsr := hbr.size
    by_cases hlt : lo < hi
    · have hc := HF.out _ hbr ((lo + hi) / 2) (by omega)
      rw [show (((lo + hi) / 2 : Nat) : Int) = ((lo : Int) + (hi : Int)) / 2 by omega] at hc
      by_cases hp : (lo + hi) / 2 < r
      · rw [HL.out _ hp] at hc
        have HC := Lib.hid hc
        clear hc
        go_wp2_with (go_at_fn g; refine HC.out.mono ?_; rintro e w1 ⟨rfl, hb1⟩; have hs1 := hb1.size)
        go_roundg (hi - ((lo + hi) / 2 + 1))
        case measure => omega
        case rel => exact ⟨(lo + hi) / 2 + 1, hi, by rw [show ((lo : Int) + (hi : Int)) / 2 + 1 = (((lo + hi) / 2 + 1 : Nat) : Int) by omega], rfl, by omega, h2, h3, by omega, (by repeat (first | exact Below.refl _ _ | assumption | refine Below.drew ?_ | refine below_drewN ?_ _ | refine Below.alloc ?_ (by first | omega | (simp; done) | (simp; omega)) _ | refine Below.setCell ?_ (by first | omega | (simp; done) | (simp; omega)) _ | refine Below.trans ?_ (Below.mono (by assumption) (by first | omega | (simp; done) | (simp; omega)))))⟩
      · rw [HH.out _ (by omega) (by omega)] at hc
        have HC := Lib.hid hc
        clear hc
        go_wp2_with (go_at_fn g; refine HC.out.mono ?_; rintro e w1 ⟨rfl, hb1⟩; have hs1 := hb1.size)
        go_roundg ((lo + hi) / 2 - lo)
        case measure => omega
        case rel => exact ⟨lo, (lo + hi) / 2, rfl, by rw [show ((lo : Int) + (hi : Int)) / 2 = (((lo + hi) / 2 : Nat) : Int) by omega], h1, by omega, by omega, by omega, (by repeat (first | exact Below.refl _ _ | assumption | refine Below.drew ?_ | refine below_drewN ?_ _ | refine Below.alloc ?_ (by first | omega | (simp; done) | (simp; omega)) _ | refine Below.setCell ?_ (by first | omega | (simp; done) | (simp; omega)) _ | refine Below.trans ?_ (Below.mono (by assumption) (by first | omega | (simp; done) | (simp; omega)))))⟩
    · obtain rfl : lo = r := by omega
      go_wp2
      go_ret
      exact ⟨rfl, (by repeat (first | exact Below.refl _ _ | assumption | refine Below.drew ?_ | refine below_drewN ?_ _ | refine Below.alloc ?_ (by first | omega | (simp; done) | (simp; omega)) _ | refine Below.setCell ?_ (by first | omega | (simp; done) | (simp; omega)) _ | refine Below.trans ?_ (Below.mono (by assumption) (by first | omega | (simp; done) | (simp; omega)))))⟩

set_option maxHeartbeats 2000000 in
theorem later_any (a : Option Addr) (l : List (Int × Int)) (hm : musOk l = true) {w : World} (ha : PairsAt w a l) (t c : Int) (b1 b2 : Nat) (h1 : w.cell? ⟨b1, 0, none⟩ = some (.slice a l.length l.length)) (h2 : w.cell? ⟨b2, 0, none⟩ = some (.int .i64 t)) (h0 : 0 ≤ c) (hc : c ≤ total l) :
    Calls Try.prog 54 #[.int .i64 c, .pointer (some ⟨b1, 0, none⟩), .pointer (some ⟨b2, 0, none⟩)] w fun e w' => e = .returned (.bool (decide (t < timeM l c))) ∧ Below w.heap.size w w' := by
  have HB := Lib.hid (fun (W : World) (hb : Below w.heap.size w W) => beginOfCount_any a l.length l hm (ha.below hb) (Nat.le_refl _) c h0 hc)
  have l1 := World.block_lt_of_cell? w _ h1
  have l2 := World.block_lt_of_cell? w _ h2
  obtain ⟨T, hT⟩ : ∃ T, T = timeM l c := ⟨_, rfl⟩
  rw [← hT] at HB ⊢
  clear hT
  go_enter Try.func54, Try.ntmps54
  go_wp2
  go_region_held3 (fun w' => w'.cell? ⟨b1, 0, none⟩ = some (.slice a l.length l.length) ∧ w'.cell? ⟨b2, 0, none⟩ = some (.int .i64 t)) (refine ⟨?_, ?_⟩ <;> first | (go_keep; done) | (simp [*, World.cell?_alloc_past, World.cell?_setCell_far]; done) | (simp [*, World.cell?_alloc_past, World.cell?_alloc_at, World.cell?_setCell_far]; done) | (go_simp; done))
    (first | (go_at_call 52; ((with_reducible refine (HB.out _ (by repeat (first | exact Below.refl _ _ | assumption | refine Below.drew ?_ | refine below_drewN ?_ _ | refine Below.alloc ?_ (by first | omega | (simp; done) | (simp; omega)) _ | refine Below.setCell ?_ (by first | omega | (simp; done) | (simp; omega)) _ | refine Below.trans ?_ (Below.mono (by assumption) (by first | omega | (simp; done) | (simp; omega)))))).mono ?_); rintro e w1 ⟨rfl, hb1⟩; have hs1 := hb1.size; have m0 : w1.cell? ⟨b1, 0, none⟩ = _ := hb1.cell (p := ⟨b1, 0, none⟩) (by first | omega | (simp; done) | (simp; omega)); have m1 : w1.cell? ⟨b2, 0, none⟩ = _ := hb1.cell (p := ⟨b2, 0, none⟩) (by first | omega | (simp; done) | (simp; omega)))))
  all_goals
    go_wp2
    go_ret
    exact ⟨by first | rfl | simp, (by repeat (first | exact Below.refl _ _ | assumption | refine Below.drew ?_ | refine below_drewN ?_ _ | refine Below.alloc ?_ (by first | omega | (simp; done) | (simp; omega)) _ | refine Below.setCell ?_ (by first | omega | (simp; done) | (simp; omega)) _ | refine Below.trans ?_ (Below.mono (by assumption) (by first | omega | (simp; done) | (simp; omega)))))⟩

/-- Two boxes that were just made, and what was there, behind a call. -/
theorem box2 {w w1 : World} {u v : Value} {t1 t2 : TypeId} (hb : Below ((w.alloc (.cells #[u] t1)).alloc (.cells #[v] t2)).heap.size ((w.alloc (.cells #[u] t1)).alloc (.cells #[v] t2)) w1) :
    w1.cell? ⟨w.heap.size, 0, none⟩ = some u ∧ w1.cell? ⟨w.heap.size + 1, 0, none⟩ = some v ∧ w.heap.size + 1 < w1.heap.size := by
  have h0 := hb.size
  simp at h0
  refine ⟨(hb.cell (p := ⟨w.heap.size, 0, none⟩) (by simp; omega)).trans ?_, (hb.cell (p := ⟨w.heap.size + 1, 0, none⟩) (by simp)).trans ?_, by omega⟩
  · rw [World.cell?_alloc_past _ _ _ (by simp), World.cell?_alloc_at _ _ _ _ rfl]; rfl
  · rw [World.cell?_alloc_at _ _ _ _ (by simp)]; rfl
theorem keep2 {W w1 : World} {u v : Value} {n : Nat} (hb : Below W.heap.size W w1) (h0 : W.cell? ⟨n, 0, none⟩ = some u) (h1 : W.cell? ⟨n + 1, 0, none⟩ = some v) :
    w1.cell? ⟨n, 0, none⟩ = some u ∧ w1.cell? ⟨n + 1, 0, none⟩ = some v ∧ n + 1 < w1.heap.size :=
  ⟨(hb.cell (World.block_lt_of_cell? W _ h0)).trans h0, (hb.cell (World.block_lt_of_cell? W _ h1)).trans h1, Nat.lt_of_lt_of_le (World.block_lt_of_cell? W _ h1) hb.size⟩

set_option maxHeartbeats 1000000 in
theorem countAt_bad (a : Option Addr) (l : List (Int × Int)) (hl : l.length ≤ 1048576) {w : World} (ha : PairsAt w a l) (t : Int) (hg : musOk l = false) :
    Calls Try.prog 26 #[.slice a l.length l.length, .int .i64 t] w fun e w' => e = .returned (.tuple #[.int .i64 0, .bool false]) ∧ Below w.heap.size w w' := by
  have HG := Lib.hid (fun (W : World) (hb : Below w.heap.size w W) => isMusic_any a l.length l hl (ha.below hb))
  skip
  all_goals
    go_enter Try.func26, Try.ntmps26
    go_wp2_with (first | (go_at_call 17; (refine (HG.out _ (by repeat (first | exact Below.refl _ _ | assumption | refine Below.drew ?_ | refine below_drewN ?_ _ | refine Below.alloc ?_ (by first | omega | (simp; done) | (simp; omega)) _ | refine Below.setCell ?_ (by first | omega | (simp; done) | (simp; omega)) _ | refine Below.trans ?_ (Below.mono (by assumption) (by first | omega | (simp; done) | (simp; omega)))))).mono ?_; rintro e w1 ⟨rfl, hb1⟩; have hs1 := hb1.size; (try simp at hs1); (first | have hbx := box2 hb1 | have hbx := keep2 hb1 m0 m1); obtain ⟨m0, m1, m2⟩ := hbx)))
    go_ret2
    exact ⟨rfl, (by repeat (first | exact Below.refl _ _ | assumption | refine Below.drew ?_ | refine below_drewN ?_ _ | refine Below.alloc ?_ (by first | omega | (simp; done) | (simp; omega)) _ | refine Below.setCell ?_ (by first | omega | (simp; done) | (simp; omega)) _ | refine Below.trans ?_ (Below.mono (by assumption) (by first | omega | (simp; done) | (simp; omega)))))⟩

set_option maxHeartbeats 2000000 in
theorem countAt_core (a : Option Addr) (l : List (Int × Int)) (hm : musOk l = true) {w : World} (ha : PairsAt w a l) (t : Int) (r : Nat) (hr : (r : Int) ≤ total l + 1) (hlo : ∀ i : Nat, i < r → timeM l i ≤ t) (hhi : ∀ i : Nat, r ≤ i → (i : Int) ≤ total l → t < timeM l i) :
    Calls Try.prog 26 #[.slice a l.length l.length, .int .i64 t] w fun e w' => e = .returned (.tuple #[.int .i64 (guardI (inB 0 ((r : Int) - 1) (total l - 1)) ((r : Int) - 1)), .bool (inB 0 ((r : Int) - 1) (total l - 1))]) ∧ Below w.heap.size w w' := by
  have hl : l.length ≤ 1048576 := by have := (musOk_len hm).2; omega
  obtain ⟨b1, b2⟩ := total_bound hm
  have HG := Lib.hid (fun (W : World) (hb : Below w.heap.size w W) => isMusic_any a l.length l hl (ha.below hb))
  have HC := Lib.hid (fun (W : World) (hb : Below w.heap.size w W) => sumOfCounts_any a l.length l hm (ha.below hb))
  have eg : ∀ args w, (callFunc 54 args).run Try.prog w = .ok (.enter 54 args) w := enters_of Try.func54 (by kernel_rfl) rfl
  have HS : Hid (∀ W : World, Below w.heap.size w W → W.cell? ⟨w.heap.size, 0, none⟩ = some (.slice a l.length l.length) → W.cell? ⟨w.heap.size + 1, 0, none⟩ = some (.int .i64 t) →
      Calls Try.prog 55 #[.int .i64 (total l + 1), .func (.func 54) #[] #[.pointer (some ⟨w.heap.size, 0, none⟩), .pointer (some ⟨w.heap.size + 1, 0, none⟩)]] W fun e w' => e = .returned (.int .i64 r) ∧ Below W.heap.size W w') := Lib.hid (by
    intro W hb c1 c2
    obtain ⟨N, hN⟩ := Int.eq_ofNat_of_zero_le (show 0 ≤ total l + 1 by omega)
    rw [hN]
    refine search_any 54 _ N r (fun i => decide (t < timeM l (i : Int))) W eg (by omega) (by omega) ?_ (fun i hi => decide_eq_false (by have := hlo i hi; omega)) (fun i h1 h2 => decide_eq_true (hhi i h1 (by omega)))
    intro W2 hb2 i hi
    have hbw : Below w.heap.size w W2 := hb.trans (hb2.mono hb.size)
    exact later_any a l hm (ha.below hbw) t i _ _ ((hb2.cell (World.block_lt_of_cell? W _ c1)).trans c1) ((hb2.cell (World.block_lt_of_cell? W _ c2)).trans c2) (by omega) (by omega))
  clear hlo hhi eg
  cases hg : inB 0 ((r : Int) - 1) (total l - 1)
  all_goals
    have v1 : IntKind.i64.wrap (total l + 1) = total l + 1 := IntWalk.i64_in _ (by omega)
    have v2 : IntKind.i64.wrap (total l - 1) = total l - 1 := IntWalk.i64_in _ (by omega)
    have v3 : IntKind.i64.wrap ((r : Int) - 1) = (r : Int) - 1 := IntWalk.i64_in _ (by omega)
    go_enter Try.func26, Try.ntmps26
    go_wp2_with (first | (go_at_call 17; (refine (HG.out _ (by repeat (first | exact Below.refl _ _ | assumption | refine Below.drew ?_ | refine below_drewN ?_ _ | refine Below.alloc ?_ (by first | omega | (simp; done) | (simp; omega)) _ | refine Below.setCell ?_ (by first | omega | (simp; done) | (simp; omega)) _ | refine Below.trans ?_ (Below.mono (by assumption) (by first | omega | (simp; done) | (simp; omega)))))).mono ?_; rintro e w1 ⟨rfl, hb1⟩; have hs1 := hb1.size; (try simp at hs1); (first | have hbx := box2 hb1 | have hbx := keep2 hb1 m0 m1); obtain ⟨m0, m1, m2⟩ := hbx)) | (go_at_call 46; (refine (HC.out _ (by repeat (first | exact Below.refl _ _ | assumption | refine Below.drew ?_ | refine below_drewN ?_ _ | refine Below.alloc ?_ (by first | omega | (simp; done) | (simp; omega)) _ | refine Below.setCell ?_ (by first | omega | (simp; done) | (simp; omega)) _ | refine Below.trans ?_ (Below.mono (by assumption) (by first | omega | (simp; done) | (simp; omega)))))).mono ?_; rintro e w1 ⟨rfl, hb1⟩; have hs1 := hb1.size; (try simp at hs1); (first | have hbx := box2 hb1 | have hbx := keep2 hb1 m0 m1); obtain ⟨m0, m1, m2⟩ := hbx)) | (go_at_call 55; (refine (HS.out _ (by repeat (first | exact Below.refl _ _ | assumption | refine Below.drew ?_ | refine below_drewN ?_ _ | refine Below.alloc ?_ (by first | omega | (simp; done) | (simp; omega)) _ | refine Below.setCell ?_ (by first | omega | (simp; done) | (simp; omega)) _ | refine Below.trans ?_ (Below.mono (by assumption) (by first | omega | (simp; done) | (simp; omega))))) m0 m1).mono ?_; rintro e w1 ⟨rfl, hb1⟩; have hs1 := hb1.size)) | (go_at_call 43; (refine (inRange_any _ _ _ _).mono ?_; rintro e w' ⟨rfl, rfl⟩)))
    go_ret2
    exact ⟨rfl, (by repeat (first | exact Below.refl _ _ | assumption | refine Below.drew ?_ | refine below_drewN ?_ _ | refine Below.alloc ?_ (by first | omega | (simp; done) | (simp; omega)) _ | refine Below.setCell ?_ (by first | omega | (simp; done) | (simp; omega)) _ | refine Below.trans ?_ (Below.mono (by assumption) (by first | omega | (simp; done) | (simp; omega)))))⟩
theorem countAt_any (a : Option Addr) (l : List (Int × Int)) (hl : l.length ≤ 1048576) {w : World} (ha : PairsAt w a l) (t : Int) :
    Calls Try.prog 26 #[.slice a l.length l.length, .int .i64 t] w fun e w' => e = .returned (.tuple #[.int .i64 (guardI (canAt l t) (cntAt l t)), .bool (canAt l t)]) ∧ Below w.heap.size w w' := by
  cases hm : musOk l
  · have e : canAt l t = false := by unfold canAt; rw [hm]; rfl
    rw [e]
    exact countAt_bad a l hl ha t hm
  · obtain ⟨b1, b2⟩ := total_bound hm
    obtain ⟨N, hN⟩ := Int.eq_ofNat_of_zero_le (show 0 ≤ total l by omega)
    have hmono : ∀ i j : Nat, i ≤ j → (j : Int) ≤ total l → timeM l i ≤ timeM l j := by
      intro i j hij hj
      by_cases e : i = j
      · rw [e]; omega
      · have := time_mono hm (c := i) (d := j) (by omega) (by omega) hj
        omega
    by_cases h0 : 0 ≤ t
    · by_cases h1 : t < timeM l (total l)
      · have hc : canAt l t = true := canAt_iff.2 ⟨hm, h0, h1⟩
        have hz : timeM l (0 : Nat) ≤ t := by
          have e : timeM l ((0 : Nat) : Int) = 0 := by
            have hl0 := (musOk_len hm).1
            have hm0 := musOk_at hm 0 hl0
            have h3 := timeM_at hm (c := 0) (i := 0) hl0 (by simp [cn]) (by simp [cn]; omega)
            simpa [tm, cn, lst] using h3
          omega
        obtain ⟨c, hc1, hc2, hc3⟩ : ∃ c : Nat, timeM l c ≤ t ∧ t < timeM l ((c : Int) + 1) ∧ (c : Int) < total l := by
          have key : ∀ k : Nat, (k : Int) ≤ total l → t < timeM l k → ∃ c : Nat, timeM l c ≤ t ∧ t < timeM l ((c : Int) + 1) ∧ (c : Int) < total l := by
            intro k
            induction k with
            | zero => intro _ h; omega
            | succ k ih =>
              intro hk h
              by_cases e : t < timeM l k
              · exact ih (by omega) e
              · exact ⟨k, by omega, by exact_mod_cast h, by omega⟩
          exact key N (by omega) (by rw [← hN]; exact h1)
        have hcn := cntAt_eq hm hc1 hc2 (by omega)
        have hcore := countAt_core a l hm ha t (c + 1) (by omega) (fun i hi => by have := hmono i c (by omega) (by omega); omega) (fun i h1 h2 => by (have h5 := hmono (c + 1) i h1 h2); (have e : ((c + 1 : Nat) : Int) = (c : Int) + 1 := by omega); (rw [e] at h5); omega)
        have e1 : (((c + 1 : Nat) : Int) - 1) = c := by omega
        rw [e1, inB_iff.2 ⟨by omega, by omega⟩] at hcore
        rw [hc, hcn]
        exact hcore
      · have hc : canAt l t = false := by rw [← Bool.not_eq_true, canAt_iff]; exact fun h => h1 h.2.2
        have hcore := countAt_core a l hm ha t (N + 1) (by omega) (fun i hi => by have := hmono i N (by omega) (by omega); rw [hN] at h1; omega) (fun i h1 h2 => by omega)
        have e1 : inB 0 (((N + 1 : Nat) : Int) - 1) (total l - 1) = false := by rw [← Bool.not_eq_true, inB_iff]; omega
        rw [e1] at hcore
        rw [hc]
        exact hcore
    · have hc : canAt l t = false := by rw [← Bool.not_eq_true, canAt_iff]; exact fun h => h0 h.2.1
      have hcore := countAt_core a l hm ha t 0 (by omega) (fun i hi => by omega) (fun i h1 h2 => by have := time_bound hm (c := i) (by omega); omega)
      have e1 : inB 0 (((0 : Nat) : Int) - 1) (total l - 1) = false := by rw [← Bool.not_eq_true, inB_iff]; omega
      rw [e1] at hcore
      rw [hc]
      exact hcore

end Go.Proofs.Ytbpphcdhbbhjpaa
