/- The library's Repeat and Concat at lists of measures. Conditions: sizes. -/
import Derived.Test.YtbpphcdhbbhjpaaCopyP
import Derived.Test.YtbpphcdhbbhjpaaMuRepS
import Derived.Test.YtbpphcdhbbhjpaaShelf
import Derived.Deep.RegionHeld3
import Derived.Deep.DrawnRows
import Derived.IntWalk
import Derived.Laws.AppendOwn
import Derived.Deep.LoopGhost
namespace Go.Proofs.Ytbpphcdhbbhjpaa
open Go.RowKit


attribute [local go_sem ↓] Go.wp_at_zero Go.wp_at_succ

theorem repsL_add (x : List (Int × Int)) (i : Nat) : ∀ j, repsL x (i + j) = repsL x i ++ repsL x j
  | 0 => by simp [repsL]
  | j + 1 => by rw [← Nat.add_assoc, repsL, repsL_add x i j, repsL, List.append_assoc]
theorem repsL_take (x : List (Int × Int)) {i j : Nat} (h : j ≤ i) : (repsL x i).take (j * x.length) = repsL x j := by
  obtain ⟨k, rfl⟩ := Nat.le.dest h
  rw [repsL_add, ← repsL_length, List.take_left']
  rfl
theorem zrow_pairs (n : Nat) : zrow n = (pairV (List.replicate n (0, 0))).toArray := by
  apply Array.ext'
  apply List.ext_getElem?
  intro i
  by_cases h : i < n * 2
  · have h1 := zrow_get n i h
    rw [← Array.getElem?_toList] at h1
    rw [h1]
    have hg := pairV_get (List.replicate n ((0 : Int), (0 : Int))) (i / 2) (by rw [List.length_replicate]; omega)
    have e1 : sx (List.replicate n ((0 : Int), (0 : Int))) (i / 2) = 0 := by unfold sx; rw [List.getD_eq_getElem?_getD, List.getElem?_replicate]; split <;> rfl
    have e2 : sy (List.replicate n ((0 : Int), (0 : Int))) (i / 2) = 0 := by unfold sy; rw [List.getD_eq_getElem?_getD, List.getElem?_replicate]; split <;> rfl
    rw [e1, e2] at hg
    show _ = (pairV _)[i]?
    by_cases hp : i % 2 = 0
    · have e : i / 2 * 2 = i := by omega
      rw [e] at hg
      exact hg.1.symm
    · have e : i / 2 * 2 + 1 = i := by omega
      rw [e] at hg
      exact hg.2.symm
  · have h1 : (zrow n).size = n * 2 := by unfold zrow madeCells; simp
    rw [List.getElem?_eq_none (by rw [Array.length_toList, h1]; omega), List.getElem?_eq_none (by show (pairV _).length ≤ i; rw [pairV_length, List.length_replicate]; omega)]

theorem Try.sizeMeasure : (Try.prog.info? 46).map (·.size) = some 2 := by kernel_rfl
theorem mul_any (x y N : Nat) (hN : x * y = N) (h : N ≤ 1048576) (hx : x ≤ 1048576) (hy : y ≤ 1048576) (w : World) :
    Calls Try.prog 69 #[.int .u64 x, .int .u64 y] w fun e w' => e = .returned (.tuple #[.int .u64 0, .int .u64 N]) ∧ w = w' := by
  refine (Try.bits_Mul x y (by omega) (by omega) w).mono ?_
  rintro e w' ⟨he, hw⟩
  rw [hN, Nat.div_eq_of_lt (by omega), Nat.mod_eq_of_lt (by omega)] at he
  exact ⟨he, hw.symm⟩

set_option maxHeartbeats 4000000 in
theorem repeat_any (b off cap : Nat) (x : List (Int × Int)) (c L N : Nat) (hL : x.length = L) (hN : c * L = N) (h1 : 1 ≤ L) (hc : 1 ≤ c) (hN2 : N ≤ 1048576) (hc2 : c ≤ 1048576) {w : World} (ha : PairsAt w (some ⟨b, off, none⟩) x) :
    Calls Try.prog 60 #[.slice (some ⟨b, off, none⟩) L cap, .int .i64 c] w fun e w' => e = .returned (.slice (some ⟨w.heap.size, 0, none⟩) N N) ∧ OwnPairs 46 w' w.heap.size (.slice (some ⟨w.heap.size, 0, none⟩) N N) (repsL x c) ∧ Below w.heap.size w w' := by
  have hLN : L ≤ N := by rw [← hN]; exact Nat.le_mul_of_pos_left L (by omega)
  have hmk := make_MeasureS N hN2
  have HMU := Lib.hid (fun W => mul_any L c N (by rw [Nat.mul_comm]; exact hN) hN2 (by omega) hc2 W)
  have HA := Lib.hid ha
  have HL := Lib.hid hL
  have HN := Lib.hid hN
  clear ha hL hN
  go_enter Try.func60, Try.ntmps60
  have hrow0 : RowP 46 (w.alloc (.cells (zrow N) 46)) w.heap.size (List.replicate N (0, 0)) := by
    have h := heap_alloc_new w (.cells (zrow N) 46)
    rw [zrow_pairs] at h
    rw [zrow_pairs]
    exact h
  have HR0 := Lib.hid hrow0
  have hmn : x.length = Nat.min L N := by rw [HL.out]; exact (Nat.min_eq_left hLN).symm
  have HMN := Lib.hid hmn
  have hsrc0 : ∀ j u, (pairV x)[j]? = some u → (w.alloc (.cells (zrow N) 46)).cell? ((⟨b, off, none⟩ : Addr).add j) = some u := by
    intro j u hj
    rw [Addr.add_lit]
    exact pairs_cells (HA.out.alloc _) j u hj
  have HS0 := Lib.hid hsrc0
  clear hrow0 hmn hsrc0
  go_wp2_with (first | (go_at_call 69; (refine (HMU.out _).mono ?_); rintro e w' ⟨rfl, rfl⟩) | (with_reducible refine wpList_copy_pairs rfl (.tmp 31) (.tmp 32) 25 25 rfl 46 Try.underlying25 Try.sizeMeasure w.heap.size 0 (N) (N) ⟨b, off, none⟩ (L) (cap) rfl rfl (List.replicate N (0, 0)) x 46 HR0.out HMN.out HS0.out (by rw [HL.out, List.length_replicate]; omega) w.heap.size w ((Below.refl _ _).alloc (Nat.le_refl _) _) (Nat.le_refl _) ?_))
  intro w2 hrow2 hb2
  have hs2 := hb2.size
  have hxl := HL.out
  go_wp2
  clear hxl hmk
  have hst : (spliceP (List.replicate N (0, 0)) 0 x).length = N ∧ (spliceP (List.replicate N (0, 0)) 0 x).take (1 * L) = repsL x 1 := by
    refine ⟨by rw [spliceP_length (by rw [HL.out, List.length_replicate]; omega), List.length_replicate], ?_⟩
    unfold spliceP
    rw [List.take_zero, List.nil_append, Nat.one_mul, ← HL.out, List.take_left']
    · rfl
    · rfl
  go_loopw [8] (fun s8 wr => ∃ (i o : Nat) (ys : List (Int × Int)), 1 ≤ i ∧ i ≤ c ∧ Hid (o = i * L) ∧ o ≤ N ∧ s8 = .int .i64 o ∧ Hid (RowP 46 wr w.heap.size ys) ∧ ys.length = N ∧ Hid (ys.take o = repsL x i) ∧ Below w.heap.size w wr) (fun s8 _ => N - (intOf s8).toNat)
  case atStart => exact ⟨1, L, _, Nat.le_refl _, hc, Lib.hid (Nat.one_mul L).symm, hLN, (by rw [HL.out]), hrow2, hst.1, Lib.hid (by rw [← hst.2, Nat.one_mul]), hb2⟩
  case round =>
    obtain ⟨i, o, ys, hi1, hi2, ho, hoN, rfl, hrow, hyl, hyt, hbr⟩ := hrel
    have hsr := hbr.size
    by_cases hlt : o < N
    · have hic : i < c := by
        by_cases e : i = c
        · subst e; have e2 := ho.out; rw [HN.out] at e2; omega
        · omega
      obtain ⟨m, hm⟩ : ∃ m, m = Nat.min i (c - i) := ⟨_, rfl⟩
      have hm1 : m ≤ i := by rw [hm]; exact Nat.min_le_left _ _
      have hm2 : m ≤ c - i := by rw [hm]; exact Nat.min_le_right _ _
      have hm3 : 1 ≤ m := by rw [hm]; exact Nat.le_min.2 ⟨hi1, by omega⟩
      obtain ⟨M, hM⟩ : ∃ M, M = m * L := ⟨_, rfl⟩
      have hNo : N - o = (c - i) * L := by rw [ho.out, ← HN.out, Nat.sub_mul]
      have hMmin : M = Nat.min o (N - o) := by rw [hNo, ho.out, hM, hm]; exact (Nat.mul_min_mul_right i (c - i) L).symm
      have hMo : M ≤ o := by rw [hMmin]; exact Nat.min_le_left _ _
      have hMN : M ≤ N - o := by rw [hMmin]; exact Nat.min_le_right _ _
      have hM1 : 1 ≤ M := by rw [hM]; exact Nat.mul_pos hm3 h1
      have hzl : (repsL x m).length = M := by rw [repsL_length, HL.out, hM]
      have hzt : ys.take M = repsL x m := by
        have e : ys.take M = (ys.take o).take M := by rw [List.take_take, Nat.min_eq_left hMo]
        rw [e, hyt.out, hM, ← HL.out, repsL_take x hm1]
      have hzn : (repsL x m).length = Nat.min o (N - o) := by rw [hzl]; exact hMmin
      have hzs : ∀ j u, (pairV (repsL x m))[j]? = some u → wr.cell? ((⟨w.heap.size, 0, none⟩ : Addr).add j) = some u := by
        intro j u hj
        rw [← hzt] at hj
        exact hrow.out.cells M j u hj
      have hzf : o + (repsL x m).length ≤ ys.length := by rw [hzl]; omega
      have hny : (spliceP ys o (repsL x m)).take (o + M) = repsL x (i + m) := by
        unfold spliceP
        have e1 : (ys.take o).length = o := by rw [List.length_take]; omega
        rw [repsL_add, ← hyt.out, ← List.append_assoc]
        rw [List.take_left' (by rw [List.length_append, e1, hzl])]
      have hnl : (spliceP ys o (repsL x m)).length = N := by rw [spliceP_length hzf, hyl]
      have hno : o + M = (i + m) * L := by rw [Nat.add_mul, ← ho.out, hM]
      have HZN := Lib.hid hzn
      have HZS := Lib.hid hzs
      have HZF := Lib.hid hzf
      have HNY := Lib.hid hny
      have HNL := Lib.hid hnl
      have HNO := Lib.hid hno
      have HZL := Lib.hid hzl
      have v1 : IntKind.i64.wrap ((o : Int) + (M : Int)) = ((o + M : Nat) : Int) := by rw [IntWalk.i64_in _ (by omega)]; omega
      have nNo : ¬ N = o := by omega
      have nNo2 : ¬ o = N := by omega
      have i0 : (0 : Int) ≤ (o : Int) := by omega
      have i1 : (o : Int) ≤ (N : Int) := by omega
      clear hm hM hNo hMmin hzl hzt hzn hzs hzf hny hnl hno hyl
      go_wp2
      go_region_held3 (fun _ => True) (exact trivial)
        ((refine step_copy_pairs rfl (.tmp 41) (.tmp 44) 25 25 rfl 46 Try.underlying25 Try.sizeMeasure w.heap.size o (N - o) (N - o) ⟨w.heap.size, 0, none⟩ o N rfl rfl ys (repsL x m) 46 hrow.out HZN.out HZS.out HZF.out w.heap.size w (by repeat (first | exact Below.refl _ _ | assumption | refine Below.drew ?_ | refine below_drewN ?_ _ | refine Below.alloc ?_ (by first | omega | (simp; done) | (simp; omega)) _ | refine Below.setCell ?_ (by first | omega | (simp; done) | (simp; omega)) _ | refine Below.trans ?_ (Below.mono (by assumption) (by first | omega | (simp; done) | (simp; omega))))) (Nat.le_refl _) ?_; intro w5 hrow5 hb5))
      all_goals
        rw [HZL.out, v1]
        have hs5 := hb5.size
        go_wp2
        go_roundw
        case rel => exact ⟨i + m, o + M, _, by omega, by omega, HNO, by omega, rfl, hrow5, HNL.out, HNY, hb5⟩
        case measure => simp [intOf]; omega
    · obtain rfl : o = N := by omega
      have hyc : ys = repsL x c := by
        have e : i = c := by
          have e2 := ho.out
          rw [← HN.out] at e2
          exact (Nat.eq_of_mul_eq_mul_right (by omega) e2).symm
        rw [← e, ← hyt.out, List.take_of_length_le (by omega)]
      go_wp2
      go_ret
      refine ⟨rfl, ?_, (by repeat (first | exact Below.refl _ _ | assumption | refine Below.drew ?_ | refine below_drewN ?_ _ | refine Below.alloc ?_ (by first | omega | (simp; done) | (simp; omega)) _ | refine Below.setCell ?_ (by first | omega | (simp; done) | (simp; omega)) _ | refine Below.trans ?_ (Below.mono (by assumption) (by first | omega | (simp; done) | (simp; omega)))))⟩
      have h := RowP.own hrow.out (Nat.le_refl _) (by unfold maxLen; omega)
      rw [hyl, hyc] at h
      exact h

theorem grow0_any (n : Nat) (h0 : 1 ≤ n) (h1 : n ≤ 1048576) (w : World) :
    Calls Try.prog 68 #[.slice none 0 0, .int .i64 n] w fun e w' => ∃ v, e = .returned v ∧ OwnPairs 46 w' w.heap.size v [] ∧ Below w.heap.size w w' := by
  obtain ⟨j0, hi, hz0, hz1, hz2⟩ := info_parts Try.infoMeasure
  refine (Any8.slices_Grow_grow Try.growM j0 (.agg #[.int .i64 0, .int .i64 0]) hi hz0 (by rw [hz1]; omega) none 0 0 n [] w (Nat.le_refl _) (by omega) (by rw [hz2]; omega) (by omega) (by simp) (fun _ => rfl) (fun a h => by cases h)).mono ?_
  rintro e w' ⟨rfl, rfl⟩
  refine ⟨_, rfl, ?_, ?_⟩
  · refine World.ownsRow_made w.drew _ _ (Nat.le_refl _) (grownCap_le_maxLen _ _ _ _ (by unfold maxLen; omega)) ?_
    have hg := grownCap_ge w (0 + n) 0 (Try.growM_ren.t 25)
    have e : (Value.agg #[.int .i64 0, .int .i64 0]).cells.size = 2 := rfl
    simp only [Nat.zero_add] at hg
    simp [Builtin.zeroCells, e]
    omega
  · exact ((Below.refl _ _).drew).alloc (Nat.le_refl _) _
/-- These slices of pairs lie there, one behind the other. -/
def SlAt (w : World) (gs : Nat) (XS : List (Addr × Nat × List (Int × Int))) : Prop :=
  ∀ i (h : i < XS.length), w.cell? ⟨gs, i, none⟩ = some (.slice (some (XS[i]'h).1) (XS[i]'h).2.2.length (XS[i]'h).2.1) ∧ ∀ j u, (pairV (XS[i]'h).2.2)[j]? = some u → w.cell? ((XS[i]'h).1.add j) = some u
theorem SlAt.below {w w' : World} {gs : Nat} {XS : List (Addr × Nat × List (Int × Int))} (h : SlAt w gs XS) (hb : Below w.heap.size w w') : SlAt w' gs XS := by
  intro i hi
  obtain ⟨h0, h1⟩ := h i hi
  exact ⟨(hb.cell (World.block_lt_of_cell? w _ h0)).trans h0, fun j u hj => (hb.cell (World.block_lt_of_cell? w _ (h1 j u hj))).trans (h1 j u hj)⟩
/-- The first k of them in one list. -/
def catX (XS : List (Addr × Nat × List (Int × Int))) : Nat → List (Int × Int)
  | 0 => []
  | k + 1 => catX XS k ++ ((XS[k]?).map (·.2.2)).getD []
theorem catX_step {XS : List (Addr × Nat × List (Int × Int))} {k : Nat} (h : k < XS.length) : catX XS (k + 1) = catX XS k ++ (XS[k]'h).2.2 := by rw [catX, List.getElem?_eq_getElem h]; rfl
theorem catX_mono {XS : List (Addr × Nat × List (Int × Int))} : ∀ {j k : Nat}, k ≤ j → (catX XS k).length ≤ (catX XS j).length
  | 0, k, h => by obtain rfl : k = 0 := by omega
                  exact Nat.le_refl _
  | j + 1, k, h => by
    by_cases e : k = j + 1
    · rw [e]; exact Nat.le_refl _
    · have := catX_mono (XS := XS) (j := j) (k := k) (by omega)
      rw [catX, List.length_append]
      omega

set_option maxHeartbeats 4000000 in
theorem concat_any (gs cp n : Nat) (XS : List (Addr × Nat × List (Int × Int))) (hn : XS.length = n) (hn2 : n ≤ 1000) (h1 : 1 ≤ (catX XS n).length) (h2 : (catX XS n).length ≤ 1048576) {w : World} (hs : SlAt w gs XS) :
    Calls Try.prog 59 #[.slice (some ⟨gs, 0, none⟩) n cp] w fun e w' => ∃ v, e = .returned v ∧ OwnPairs 46 w' w.heap.size v (catX XS n) ∧ Below w.heap.size w w' := by
  obtain ⟨j0, hi, hz0, hz1, hz2⟩ := info_parts Try.infoMeasure
  have HI := Lib.hid hi
  have HZ0 := Lib.hid hz0
  have HZ1 := Lib.hid hz1
  have HZ2 := Lib.hid hz2
  clear hi hz0 hz1 hz2
  have HS := Lib.hid hs
  have HN := Lib.hid hn
  clear hs hn
  go_enter Try.func59, Try.ntmps59
  go_wp2
  go_loopw [3, 11] (fun sz i wr => ∃ k : Nat, k ≤ n ∧ i = .int .i64 k ∧ sz = .int .i64 ((catX XS k).length : Nat) ∧ Below w.heap.size w wr) (fun _ i _ => n - (intOf i).toNat)
  case atStart => exact ⟨0, Nat.zero_le _, rfl, rfl, Below.refl _ _⟩
  case round =>
    obtain ⟨k, hk, rfl, rfl, hbr⟩ := hrel
    have hsr := hbr.size
    have hmo := catX_mono (XS := XS) hk
    by_cases hlt : k < n
    · have hkx : k < XS.length := by rw [HN.out]; exact hlt
      obtain ⟨c0, c1⟩ := (HS.out.below hbr) k hkx
      have hst := catX_step hkx
      have hmo2 := catX_mono (XS := XS) (j := n) (k := k + 1) (by omega)
      have hsl : (catX XS (k + 1)).length = (catX XS k).length + (XS[k]'hkx).2.2.length := by rw [hst, List.length_append]
      obtain ⟨X, hX⟩ : ∃ X, X = XS[k]'hkx := ⟨_, rfl⟩
      rw [← hX] at c0 hsl
      obtain ⟨ad, cx, xs⟩ := X
      simp only at c0 hsl
      obtain ⟨q, hq⟩ : ∃ q, q = (catX XS k).length := ⟨_, rfl⟩
      obtain ⟨q2, hq2⟩ : ∃ q, q = (catX XS (k + 1)).length := ⟨_, rfl⟩
      have HQ2 := Lib.hid hq2
      rw [← hq] at hsl hmo ⊢
      rw [← hq2] at hsl hmo2
      have i0 : (0 : Int) ≤ (k : Int) := by omega
      have i1 : (k : Int) < (n : Int) := by omega
      have v1 : IntKind.i64.wrap ((q : Int) + (xs.length : Int)) = (q2 : Int) := by rw [IntWalk.i64_in _ (by omega)]; omega
      have v2 : ¬ (q2 : Int) < 0 := by omega
      have v3 : decide ((q2 : Int) < 0) = false := decide_eq_false v2
      have v4 : (q : Int) + (xs.length : Int) = (q2 : Int) := by omega
      clear c1 hst hX hq hq2 hsl
      go_wp2
      go_roundw
      case rel => exact ⟨k + 1, by omega, by go_num, by rw [← HQ2.out], (by repeat (first | exact Below.refl _ _ | assumption | refine Below.drew ?_ | refine below_drewN ?_ _ | refine Below.alloc ?_ (by first | omega | (simp; done) | (simp; omega)) _ | refine Below.setCell ?_ (by first | omega | (simp; done) | (simp; omega)) _ | refine Below.trans ?_ (Below.mono (by assumption) (by first | omega | (simp; done) | (simp; omega)))))⟩
      case measure => simp [intOf]; omega
    · obtain rfl : k = n := by omega
      have HGR := Lib.hid (fun W => grow0_any (catX XS k).length h1 h2 W)
      go_wp2_with (go_at_call 68; (refine (HGR.out _).mono ?_); rintro e w2 ⟨v2, rfl, ho2, hb2⟩; have hs2 := hb2.size)
      have hb3 : Below w.heap.size w w2 := (by repeat (first | exact Below.refl _ _ | assumption | refine Below.drew ?_ | refine below_drewN ?_ _ | refine Below.alloc ?_ (by first | omega | (simp; done) | (simp; omega)) _ | refine Below.setCell ?_ (by first | omega | (simp; done) | (simp; omega)) _ | refine Below.trans ?_ (Below.mono (by assumption) (by first | omega | (simp; done) | (simp; omega)))))
      have ho3 := own_mono ho2 hsr
      have HO3 := Lib.hid ho3
      clear ho2 hb2 hs2 ho3
      have hs3 := hb3.size
      go_loopw [6, 27] (fun ov i wr => ∃ (j : Nat) (vo : Value), j ≤ k ∧ i = .int .i64 j ∧ ov = vo ∧ Hid (OwnPairs 46 wr w.heap.size vo (catX XS j)) ∧ Below w.heap.size w wr) (fun _ i _ => k - (intOf i).toNat)
      case atStart => exact ⟨0, _, Nat.zero_le _, rfl, rfl, HO3, hb3⟩
      case round =>
        obtain ⟨j, vo, hj, rfl, hv, HOWN, hbr2⟩ := hrel
        replace hv := hv.symm
        subst hv
        have hsr2 := hbr2.size
        by_cases hlt2 : j < k
        · have hkx : j < XS.length := by rw [HN.out]; exact hlt2
          obtain ⟨c0, c1⟩ := (HS.out.below hbr2) j hkx
          have hst := catX_step hkx
          have hmo2 := catX_mono (XS := XS) (j := k) (k := j + 1) (by omega)
          have hsl : (catX XS (j + 1)).length = (catX XS j).length + (XS[j]'hkx).2.2.length := by rw [hst, List.length_append]
          obtain ⟨X, hX⟩ : ∃ X, X = XS[j]'hkx := ⟨_, rfl⟩
          rw [← hX] at c0 c1 hsl hst
          obtain ⟨ad, cx, xs⟩ := X
          simp only at c0 c1 hsl hst
          obtain ⟨acc, hacc⟩ : ∃ acc, acc = catX XS j := ⟨_, rfl⟩
          rw [← hacc] at HOWN hsl hst
          have i0 : (0 : Int) ≤ (j : Int) := by omega
          have i1 : (j : Int) < (k : Int) := by omega
          have HC1 := Lib.hid c1
          have HST := Lib.hid hst
          clear hX c1 hst hacc hmo
          go_wp2_with (at_builtin; refine wpList_append_own _ rfl _ _ 25 rfl (w.heap.size) 46 j0 (.agg #[.int .i64 0, .int .i64 0]) 2 16 Try.underlying25 HI.out HZ0.out HZ1.out HZ2.out rfl (by decide) _ _ _ rfl HOWN.out ad xs.length cx (pairV xs) rfl ?c1 ?c2 ?c3 ?c4 ?c5 ?c6 ?_)
          (try case c1 => exact pairV_length xs)
          (try case c2 => exact HC1.out)
          (try case c3 => exact pairV_one _)
          (try case c4 => unfold maxLen; omega)
          (try case c5 => omega)
          (try case c6 => omega)
          intro v5 w5 hown5 hgrow5 hnil5
          have hol := World.ownsRow.lt HOWN.out
          have hb5 : Below w.heap.size w w5 := hbr2.grown hgrow5 (by omega) (fun x hx => (hol x hx).1)
          have hown6 : OwnPairs 46 w5 w.heap.size v5 (catX XS (j + 1)) := by
            rw [HST.out, OwnPairs, pairV_append, List.length_append]
            exact hown5
          have HO6 := Lib.hid hown6
          clear hown5 hgrow5 hnil5 hown6 hol
          have hs5 := hb5.size
          go_wp2
          go_roundw
          case rel => exact ⟨j + 1, _, by omega, by go_num, rfl, HO6, hb5⟩
          case measure => simp [intOf]; omega
        · obtain rfl : j = k := by omega
          go_wp2
          go_ret
          exact ⟨_, rfl, HOWN.out, (by repeat (first | exact Below.refl _ _ | assumption | refine Below.drew ?_ | refine below_drewN ?_ _ | refine Below.alloc ?_ (by first | omega | (simp; done) | (simp; omega)) _ | refine Below.setCell ?_ (by first | omega | (simp; done) | (simp; omega)) _ | refine Below.trans ?_ (Below.mono (by assumption) (by first | omega | (simp; done) | (simp; omega)))))⟩

end Go.Proofs.Ytbpphcdhbbhjpaa
