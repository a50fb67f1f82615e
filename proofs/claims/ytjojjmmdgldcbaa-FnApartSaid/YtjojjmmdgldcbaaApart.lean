/- FnApart: for drawn moves the least square is none greater than at any count. No conditions. -/
import Derived.Test.YtjojjmmdgldcbaaCurDt
import Derived.Test.YtjojjmmdgldcbaaApQm
import Derived.Test.YtjojjmmdgldcbaaApQc
import Derived.Test.YtjojjmmdgldcbaaOpenBytes
import Derived.Deep.RegionHeld3
import Derived.Deep.DeepCutAuto
import Derived.Deep.DrawnRows
import Derived.Deep.DeepCutAuto
namespace Go.Proofs.Ytjojjmmdgldcbaa
open Go.ChangeShapes Go.WideShapes Go.ChangeAt Go.RowKit


attribute [local go_sem ↓] Go.wp_at_zero Go.wp_at_succ

theorem bl10 {w w' : World} {ga gb : Nat} {x1 y1 x2 y2 n x3 y3 x4 y4 m : Int} (hb : Below w.heap.size w w') (h : w.cell? ⟨ga, 0, none⟩ = some (.int .i64 x1) ∧ w.cell? ⟨ga, 1, none⟩ = some (.int .i64 y1) ∧ w.cell? ⟨ga, 2, none⟩ = some (.int .i64 x2) ∧ w.cell? ⟨ga, 3, none⟩ = some (.int .i64 y2) ∧ w.cell? ⟨ga, 4, none⟩ = some (.int .i64 n) ∧ w.cell? ⟨gb, 0, none⟩ = some (.int .i64 x3) ∧ w.cell? ⟨gb, 1, none⟩ = some (.int .i64 y3) ∧ w.cell? ⟨gb, 2, none⟩ = some (.int .i64 x4) ∧ w.cell? ⟨gb, 3, none⟩ = some (.int .i64 y4) ∧ w.cell? ⟨gb, 4, none⟩ = some (.int .i64 m)) : w'.cell? ⟨ga, 0, none⟩ = some (.int .i64 x1) ∧ w'.cell? ⟨ga, 1, none⟩ = some (.int .i64 y1) ∧ w'.cell? ⟨ga, 2, none⟩ = some (.int .i64 x2) ∧ w'.cell? ⟨ga, 3, none⟩ = some (.int .i64 y2) ∧ w'.cell? ⟨ga, 4, none⟩ = some (.int .i64 n) ∧ w'.cell? ⟨gb, 0, none⟩ = some (.int .i64 x3) ∧ w'.cell? ⟨gb, 1, none⟩ = some (.int .i64 y3) ∧ w'.cell? ⟨gb, 2, none⟩ = some (.int .i64 x4) ∧ w'.cell? ⟨gb, 3, none⟩ = some (.int .i64 y4) ∧ w'.cell? ⟨gb, 4, none⟩ = some (.int .i64 m) := by
  obtain ⟨k0, k1, k2, k3, k4, k5, k6, k7, k8, k9⟩ := h
  exact ⟨(hb.cell (World.block_lt_of_cell? _ _ k0)).trans k0, (hb.cell (World.block_lt_of_cell? _ _ k1)).trans k1, (hb.cell (World.block_lt_of_cell? _ _ k2)).trans k2, (hb.cell (World.block_lt_of_cell? _ _ k3)).trans k3, (hb.cell (World.block_lt_of_cell? _ _ k4)).trans k4, (hb.cell (World.block_lt_of_cell? _ _ k5)).trans k5, (hb.cell (World.block_lt_of_cell? _ _ k6)).trans k6, (hb.cell (World.block_lt_of_cell? _ _ k7)).trans k7, (hb.cell (World.block_lt_of_cell? _ _ k8)).trans k8, (hb.cell (World.block_lt_of_cell? _ _ k9)).trans k9⟩
theorem made10 {w : World} {g : Nat} (hg : g = w.heap.size) (x1 y1 x2 y2 n x3 y3 x4 y4 m : Int) (t : TypeId) : ((w.alloc (.cells #[.int .i64 x1, .int .i64 y1, .int .i64 x2, .int .i64 y2, .int .i64 n] t)).alloc (.cells #[.int .i64 x3, .int .i64 y3, .int .i64 x4, .int .i64 y4, .int .i64 m] t)).cell? ⟨g, 0, none⟩ = some (.int .i64 x1) ∧ ((w.alloc (.cells #[.int .i64 x1, .int .i64 y1, .int .i64 x2, .int .i64 y2, .int .i64 n] t)).alloc (.cells #[.int .i64 x3, .int .i64 y3, .int .i64 x4, .int .i64 y4, .int .i64 m] t)).cell? ⟨g, 1, none⟩ = some (.int .i64 y1) ∧ ((w.alloc (.cells #[.int .i64 x1, .int .i64 y1, .int .i64 x2, .int .i64 y2, .int .i64 n] t)).alloc (.cells #[.int .i64 x3, .int .i64 y3, .int .i64 x4, .int .i64 y4, .int .i64 m] t)).cell? ⟨g, 2, none⟩ = some (.int .i64 x2) ∧ ((w.alloc (.cells #[.int .i64 x1, .int .i64 y1, .int .i64 x2, .int .i64 y2, .int .i64 n] t)).alloc (.cells #[.int .i64 x3, .int .i64 y3, .int .i64 x4, .int .i64 y4, .int .i64 m] t)).cell? ⟨g, 3, none⟩ = some (.int .i64 y2) ∧ ((w.alloc (.cells #[.int .i64 x1, .int .i64 y1, .int .i64 x2, .int .i64 y2, .int .i64 n] t)).alloc (.cells #[.int .i64 x3, .int .i64 y3, .int .i64 x4, .int .i64 y4, .int .i64 m] t)).cell? ⟨g, 4, none⟩ = some (.int .i64 n) ∧ ((w.alloc (.cells #[.int .i64 x1, .int .i64 y1, .int .i64 x2, .int .i64 y2, .int .i64 n] t)).alloc (.cells #[.int .i64 x3, .int .i64 y3, .int .i64 x4, .int .i64 y4, .int .i64 m] t)).cell? ⟨(g + 1), 0, none⟩ = some (.int .i64 x3) ∧ ((w.alloc (.cells #[.int .i64 x1, .int .i64 y1, .int .i64 x2, .int .i64 y2, .int .i64 n] t)).alloc (.cells #[.int .i64 x3, .int .i64 y3, .int .i64 x4, .int .i64 y4, .int .i64 m] t)).cell? ⟨(g + 1), 1, none⟩ = some (.int .i64 y3) ∧ ((w.alloc (.cells #[.int .i64 x1, .int .i64 y1, .int .i64 x2, .int .i64 y2, .int .i64 n] t)).alloc (.cells #[.int .i64 x3, .int .i64 y3, .int .i64 x4, .int .i64 y4, .int .i64 m] t)).cell? ⟨(g + 1), 2, none⟩ = some (.int .i64 x4) ∧ ((w.alloc (.cells #[.int .i64 x1, .int .i64 y1, .int .i64 x2, .int .i64 y2, .int .i64 n] t)).alloc (.cells #[.int .i64 x3, .int .i64 y3, .int .i64 x4, .int .i64 y4, .int .i64 m] t)).cell? ⟨(g + 1), 3, none⟩ = some (.int .i64 y4) ∧ ((w.alloc (.cells #[.int .i64 x1, .int .i64 y1, .int .i64 x2, .int .i64 y2, .int .i64 n] t)).alloc (.cells #[.int .i64 x3, .int .i64 y3, .int .i64 x4, .int .i64 y4, .int .i64 m] t)).cell? ⟨(g + 1), 4, none⟩ = some (.int .i64 m) := by
  subst hg
  have PA := (mF_made w x1 y1 x2 y2 n t).alloc (.cells #[.int .i64 x3, .int .i64 y3, .int .i64 x4, .int .i64 y4, .int .i64 m] t)
  have PB := mF_made (w.alloc (.cells #[.int .i64 x1, .int .i64 y1, .int .i64 x2, .int .i64 y2, .int .i64 n] t)) x3 y3 x4 y4 m t
  rw [show (w.alloc (.cells #[.int .i64 x1, .int .i64 y1, .int .i64 x2, .int .i64 y2, .int .i64 n] t)).heap.size = w.heap.size + 1 by simp] at PB
  obtain ⟨a0, a1, a2, a3, a4, _⟩ := mF_cells PA
  obtain ⟨b0, b1, b2, b3, b4, _⟩ := mF_cells PB
  exact ⟨a0, a1, a2, a3, a4, b0, b1, b2, b3, b4⟩

theorem at_low {x1 y1 x2 y2 n x3 y3 x4 y4 m L : Int} {k : Int} (h : gtog x1 y1 x2 y2 n x3 y3 x4 y4 m = true) (k0 : 0 ≤ k) (k1 : k ≤ n) : (0 ≤ atn x1 y1 x2 y2 n x3 y3 x4 y4 m k ∧ atn x1 y1 x2 y2 n x3 y3 x4 y4 m k ≤ 1000000000000000) ∧ 0 < atd x1 y1 x2 y2 n x3 y3 x4 y4 m k ∧ atd x1 y1 x2 y2 n x3 y3 x4 y4 m k ≤ 10000000 ∧
    ∀ c d : Int, fLt (atn x1 y1 x2 y2 n x3 y3 x4 y4 m k) (atd x1 y1 x2 y2 n x3 y3 x4 y4 m k) c d = fLt (sqAt x1 y1 x2 y2 n x3 y3 x4 y4 m k) (n * n) c d := by
  obtain ⟨A, B, f3, f4, hA, hB, hB0, f1, f2⟩ := sqAt_nat h k0 k1
  obtain ⟨c, c0, e1, e2, l1, l2, l3, l4⟩ := low_facts A B hB0
  rw [f1, f2, f3, f4]
  refine ⟨⟨l1, by omega⟩, l2, by omega, fun x y => ?_⟩
  have e3 := fLt_mul (a := lowN A B) (b := lowD A B) (c := x) (d := y) (k := (c : Int)) (m := 1) (by omega) (by omega)
  rw [Int.mul_one, Int.mul_one, ← e1, ← e2] at e3
  exact e3.symm
theorem at_not_less {x1 y1 x2 y2 n x3 y3 x4 y4 m : Int} {k : Int} (h : gtog x1 y1 x2 y2 n x3 y3 x4 y4 m = true) (k0 : 0 ≤ k) (k1 : k ≤ n) : fLt (atn x1 y1 x2 y2 n x3 y3 x4 y4 m k) (atd x1 y1 x2 y2 n x3 y3 x4 y4 m k) (aln (x1 - x3) (y1 - y3) (x2 - x4) (y2 - y4)) (ald (x1 - x3) (y1 - y3) (x2 - x4) (y2 - y4)) = false := by
  obtain ⟨_, _, _, h4⟩ := at_low (L := 0) h k0 k1
  rw [h4]
  have h1 := at_least h k0 k1
  obtain ⟨_, _, _, c, c0, e1, e2⟩ := low_bd (gtog_way h).1
  rw [e1, e2] at h1
  have e3 := fLt_mul (a := sqAt x1 y1 x2 y2 n x3 y3 x4 y4 m k) (b := n * n) (c := aln (x1 - x3) (y1 - y3) (x2 - x4) (y2 - y4)) (d := ald (x1 - x3) (y1 - y3) (x2 - x4) (y2 - y4)) (k := 1) (m := c) (by omega) c0
  rw [Int.mul_one, Int.mul_one] at e3
  rw [← e3]
  exact h1

set_option maxRecDepth 100000 in
set_option maxHeartbeats 16000000 in
theorem apart_small (a1 : Option Addr) (c1 n1 : Nat) (a2 : Option Addr) (c2 n2' : Nat) (len : Int) (hv1 : IntKind.i64.wrap ((n1 : Int) + (n2' : Int)) = len) (hn' : ¬ 1048576 < len) (w : World) (hY1 : BytesIn w a1 n1) (hY2 : BytesIn w a2 n2') :
    Calls Try.prog 13 #[.slice a1 n1 c1, .slice a2 n2' c2] w fun e w' => e = .returned (.bool true) ∧ Below w.heap.size w w' := by
  have HY1 := Lib.hid hY1
  have HY2 := Lib.hid hY2
  clear hY1 hY2
  go_enter Try.func13, Try.ntmps13
  go_wp2_with fail
  refine (drawLA_any a1 n1 c1 HY1.out).mono ?_
  rintro e w1 ⟨x1, y1, x2, y2, n, x3, y3, x4, y4, m, rfl, hnA, hb1⟩
  have hB1 : Below w.heap.size w w1 := hb1
  have HIL := Lib.hid (fun W => least_any x1 y1 x2 y2 n x3 y3 x4 y4 m W)
  have HSL := Lib.hid (fun W => specLeast_any x1 y1 x2 y2 n x3 y3 x4 y4 m W)
  have HIT := Lib.hid (fun W => time_any x1 y1 x2 y2 n x3 y3 x4 y4 m W)
  have HST := Lib.hid (fun W => specTime_any x1 y1 x2 y2 n x3 y3 x4 y4 m W)
  obtain ⟨P, hP⟩ : ∃ z, z = guardI (gtog x1 y1 x2 y2 n x3 y3 x4 y4 m) (aln (x1 - x3) (y1 - y3) (x2 - x4) (y2 - y4)) := ⟨_, rfl⟩
  simp only [← hP] at HIL HSL
  have H_P := Lib.hid hP
  clear hP
  obtain ⟨Q, hQ⟩ : ∃ z, z = guardI (gtog x1 y1 x2 y2 n x3 y3 x4 y4 m) (ald (x1 - x3) (y1 - y3) (x2 - x4) (y2 - y4)) := ⟨_, rfl⟩
  simp only [← hQ] at HIL HSL
  have H_Q := Lib.hid hQ
  clear hQ
  obtain ⟨T, hT⟩ : ∃ z, z = guardI (gtog x1 y1 x2 y2 n x3 y3 x4 y4 m) (ctn (x1 - x3) (y1 - y3) (x2 - x4) (y2 - y4) n) := ⟨_, rfl⟩
  simp only [← hT] at HIT HST
  have H_T := Lib.hid hT
  clear hT
  obtain ⟨U, hU⟩ : ∃ z, z = guardI (gtog x1 y1 x2 y2 n x3 y3 x4 y4 m) (ctd (x1 - x3) (y1 - y3) (x2 - x4) (y2 - y4) n) := ⟨_, rfl⟩
  simp only [← hU] at HIT HST
  have H_U := Lib.hid hU
  clear hU
  obtain ⟨okA, hokA⟩ : ∃ z, z = gtog x1 y1 x2 y2 n x3 y3 x4 y4 m := ⟨_, rfl⟩
  simp only [← hokA] at HIL HSL HIT HST
  have H_okA := Lib.hid hokA
  clear hokA
  go_wp2_with fail
  obtain ⟨w2, hw2⟩ : ∃ z, z = (w1.alloc (.cells #[.int .i64 x1, .int .i64 y1, .int .i64 x2, .int .i64 y2, .int .i64 n] 30)).alloc (.cells #[.int .i64 x3, .int .i64 y3, .int .i64 x4, .int .i64 y4, .int .i64 m] 30) := ⟨_, rfl⟩
  obtain ⟨gA, hgA⟩ : ∃ z, z = w1.heap.size := ⟨_, rfl⟩
  have cA := made10 hgA x1 y1 x2 y2 n x3 y3 x4 y4 m 30
  rw [← hw2] at cA
  have hb2 : Below w1.heap.size w1 w2 := by rw [hw2]; exact ((Below.refl _ _).alloc (Nat.le_refl _) _).alloc (by first | omega | (simp; done) | (simp; omega)) _
  rw [← hw2, ← hgA]
  clear hw2 hgA
  have hB2 : Below w.heap.size w w2 := hB1.trans (hb2.mono hB1.size)
  refine (HIL.out _).mono ?_
  rintro e w3 ⟨rfl, hb3⟩
  replace cA := bl10 hb3 cA
  have hB3 : Below w.heap.size w w3 := hB2.trans (hb3.mono hB2.size)
  go_wp2_with fail
  refine (HSL.out _).mono ?_
  rintro e w4 ⟨rfl, hb4⟩
  replace cA := bl10 hb4 cA
  have hB4 : Below w.heap.size w w4 := hB3.trans (hb4.mono hB3.size)
  go_wp2_with fail
  refine (HIT.out _).mono ?_
  rintro e w5 ⟨rfl, hb5⟩
  replace cA := bl10 hb5 cA
  have hB5 : Below w.heap.size w w5 := hB4.trans (hb5.mono hB4.size)
  go_wp2_with fail
  refine (HST.out _).mono ?_
  rintro e w6 ⟨rfl, hb6⟩
  replace cA := bl10 hb6 cA
  have hB6 : Below w.heap.size w w6 := hB5.trans (hb6.mono hB5.size)
  clear HIL HSL HIT HST
  go_wp2_with fail
  have hY7 := HY2.out.go hB6
  refine (drawSA_any a2 n2' c2 hY7).mono ?_
  rintro e w7 ⟨x5, y5, x6, y6, n2, x7, y7, x8, y8, m2, L, rfl, hnC, hb7⟩
  replace cA := bl10 hb7 cA
  have hB7 : Below w.heap.size w w7 := hB6.trans (hb7.mono hB6.size)
  have HIS := Lib.hid (fun W => stayX_any x5 y5 x6 y6 n2 x7 y7 x8 y8 m2 L W)
  have HSS := Lib.hid (fun W => specStay_any x5 y5 x6 y6 n2 x7 y7 x8 y8 m2 L W)
  have HIC := Lib.hid (fun W => close_any x5 y5 x6 y6 n2 x7 y7 x8 y8 m2 L W)
  have HSC := Lib.hid (fun W => specClose_any x5 y5 x6 y6 n2 x7 y7 x8 y8 m2 L W)
  obtain ⟨okC, hokC⟩ : ∃ z, z = (gtog x5 y5 x6 y6 n2 x7 y7 x8 y8 m2 && inB 0 L 80) := ⟨_, rfl⟩
  simp only [← hokC] at HIS HSS
  have H_okC := Lib.hid hokC
  clear hokC
  obtain ⟨sC, hsC⟩ : ∃ z, z = (okC && apSt (x5 - x7) (y5 - y7) (x6 - x8) (y6 - y8) L) := ⟨_, rfl⟩
  simp only [← hsC] at HIS HSS
  have H_sC := Lib.hid hsC
  clear hsC
  go_wp2_with fail
  obtain ⟨w8, hw8⟩ : ∃ z, z = (w7.alloc (.cells #[.int .i64 x5, .int .i64 y5, .int .i64 x6, .int .i64 y6, .int .i64 n2] 30)).alloc (.cells #[.int .i64 x7, .int .i64 y7, .int .i64 x8, .int .i64 y8, .int .i64 m2] 30) := ⟨_, rfl⟩
  obtain ⟨gC, hgC⟩ : ∃ z, z = w7.heap.size := ⟨_, rfl⟩
  have cC := made10 hgC x5 y5 x6 y6 n2 x7 y7 x8 y8 m2 30
  rw [← hw8] at cC
  have hb8 : Below w7.heap.size w7 w8 := by rw [hw8]; exact ((Below.refl _ _).alloc (Nat.le_refl _) _).alloc (by first | omega | (simp; done) | (simp; omega)) _
  rw [← hw8, ← hgC]
  clear hw8 hgC
  replace cA := bl10 hb8 cA
  have hB8 : Below w.heap.size w w8 := hB7.trans (hb8.mono hB7.size)
  refine (HIS.out _).mono ?_
  rintro e w9 ⟨rfl, hb9⟩
  replace cA := bl10 hb9 cA
  replace cC := bl10 hb9 cC
  have hB9 : Below w.heap.size w w9 := hB8.trans (hb9.mono hB8.size)
  go_wp2_with fail
  refine (HSS.out _).mono ?_
  rintro e w10 ⟨rfl, hb10⟩
  replace cA := bl10 hb10 cA
  replace cC := bl10 hb10 cC
  have hB10 : Below w.heap.size w w10 := hB9.trans (hb10.mono hB9.size)
  obtain ⟨XS, hXS⟩ : ∃ z, z = closeL x5 y5 x6 y6 n2 x7 y7 x8 y8 m2 L := ⟨_, rfl⟩
  have H_XS := Lib.hid hXS
  have hxl : XS.length ≤ 65 := by rw [hXS]; exact closeL_length x5 y5 x6 y6 n2 x7 y7 x8 y8 m2 L
  clear hXS
  go_wp2_with fail
  refine (HIC.out _).mono ?_
  rintro e w11 ⟨v1, rfl, ho11, hb11⟩
  replace cA := bl10 hb11 cA
  replace cC := bl10 hb11 cC
  have hB11 : Below w.heap.size w w11 := hB10.trans (hb11.mono hB10.size)
  obtain ⟨al, capl, rfl, I1, _⟩ := own_viewI ho11
  clear ho11
  rw [← H_XS.out] at I1 ⊢
  rw [show ccOk x5 y5 x6 y6 n2 x7 y7 x8 y8 m2 L = okC from H_okC.out.symm]
  go_wp2_with fail
  refine (HSC.out _).mono ?_
  rintro e w12 ⟨v2, rfl, ho12, hb12⟩
  replace cA := bl10 hb12 cA
  replace cC := bl10 hb12 cC
  have hB12 : Below w.heap.size w w12 := hB11.trans (hb12.mono hB11.size)
  replace I1 := I1.below hb12
  obtain ⟨am, capm, rfl, I2, _⟩ := own_viewI ho12
  clear ho12
  rw [← H_XS.out] at I2 ⊢
  rw [show ccOk x5 y5 x6 y6 n2 x7 y7 x8 y8 m2 L = okC from H_okC.out.symm]
  clear HIS HSS HIC HSC
  go_wp2_with fail
  have hY13 := HY2.out.go hB12
  refine (drawAA_any a2 n2' c2 hY13).mono ?_
  rintro e w13 ⟨x9, y9, x10, y10, n3, x11, y11, x12, y12, m3, at', rfl, hnE, hb13⟩
  replace cA := bl10 hb13 cA
  replace cC := bl10 hb13 cC
  replace I1 := I1.below hb13
  replace I2 := I2.below hb13
  have hB13 : Below w.heap.size w w13 := hB12.trans (hb13.mono hB12.size)
  have HIA := Lib.hid (fun W => apartAt_any x9 y9 x10 y10 n3 x11 y11 x12 y12 m3 at' W)
  have HSA := Lib.hid (fun W => specApartAt_any x9 y9 x10 y10 n3 x11 y11 x12 y12 m3 at' W)
  obtain ⟨X, hX⟩ : ∃ z, z = guardI (gtog x9 y9 x10 y10 n3 x11 y11 x12 y12 m3 && inB 0 at' n3) (atn x9 y9 x10 y10 n3 x11 y11 x12 y12 m3 at') := ⟨_, rfl⟩
  simp only [← hX] at HIA HSA
  have H_X := Lib.hid hX
  clear hX
  obtain ⟨Y, hY⟩ : ∃ z, z = guardI (gtog x9 y9 x10 y10 n3 x11 y11 x12 y12 m3 && inB 0 at' n3) (atd x9 y9 x10 y10 n3 x11 y11 x12 y12 m3 at') := ⟨_, rfl⟩
  simp only [← hY] at HIA HSA
  have H_Y := Lib.hid hY
  clear hY
  obtain ⟨okE, hokE⟩ : ∃ z, z = (gtog x9 y9 x10 y10 n3 x11 y11 x12 y12 m3 && inB 0 at' n3) := ⟨_, rfl⟩
  simp only [← hokE] at HIA HSA
  have H_okE := Lib.hid hokE
  clear hokE
  go_wp2_with fail
  obtain ⟨w14, hw14⟩ : ∃ z, z = (w13.alloc (.cells #[.int .i64 x9, .int .i64 y9, .int .i64 x10, .int .i64 y10, .int .i64 n3] 30)).alloc (.cells #[.int .i64 x11, .int .i64 y11, .int .i64 x12, .int .i64 y12, .int .i64 m3] 30) := ⟨_, rfl⟩
  obtain ⟨gE, hgE⟩ : ∃ z, z = w13.heap.size := ⟨_, rfl⟩
  have cE := made10 hgE x9 y9 x10 y10 n3 x11 y11 x12 y12 m3 30
  rw [← hw14] at cE
  have hb14 : Below w13.heap.size w13 w14 := by rw [hw14]; exact ((Below.refl _ _).alloc (Nat.le_refl _) _).alloc (by first | omega | (simp; done) | (simp; omega)) _
  rw [← hw14, ← hgE]
  clear hw14 hgE
  replace cA := bl10 hb14 cA
  replace cC := bl10 hb14 cC
  have hB14 : Below w.heap.size w w14 := hB13.trans (hb14.mono hB13.size)
  replace I1 := I1.below hb14
  replace I2 := I2.below hb14
  refine (HIA.out _).mono ?_
  rintro e w15 ⟨rfl, hb15⟩
  replace cA := bl10 hb15 cA
  replace cC := bl10 hb15 cC
  replace cE := bl10 hb15 cE
  have hB15 : Below w.heap.size w w15 := hB14.trans (hb15.mono hB14.size)
  replace I1 := I1.below hb15
  replace I2 := I2.below hb15
  go_wp2_with fail
  refine (HSA.out _).mono ?_
  rintro e w16 ⟨rfl, hb16⟩
  replace cA := bl10 hb16 cA
  replace cC := bl10 hb16 cC
  have hB16 : Below w.heap.size w w16 := hB15.trans (hb16.mono hB15.size)
  replace I1 := I1.below hb16
  replace I2 := I2.below hb16
  clear HIA HSA cE
  go_wp2_with fail
  refine (qInts_same al am capl capm XS (by omega) I1 I2).mono ?_
  rintro e w17 ⟨rfl, hb17⟩
  replace cA := bl10 hb17 cA
  replace cC := bl10 hb17 cC
  replace I2 := I2.below hb17
  have hB17 : Below w.heap.size w w17 := hB16.trans (hb17.mono hB16.size)
  clear I1
  clear hb1 hb2 hb3 hb4 hb5 hb6 hb7 hb8 hb9 hb10 hb11 hb12 hb13 hb14 hb15 hb16 hb17 hB1 hB2 hB3 hB4 hB5 hB6 hB7 hB8 hB9 hB10 hB11 hB12 hB13 hB14 hB15 hB16 hY7 hY13 hnE
  go_upto_if 231 with fail
  go_cut [] (fun wx => Hid (wx.cell? ⟨gA, 0, none⟩ = some (.int .i64 x1) ∧ wx.cell? ⟨gA, 1, none⟩ = some (.int .i64 y1) ∧ wx.cell? ⟨gA, 2, none⟩ = some (.int .i64 x2) ∧ wx.cell? ⟨gA, 3, none⟩ = some (.int .i64 y2) ∧ wx.cell? ⟨gA, 4, none⟩ = some (.int .i64 n) ∧ wx.cell? ⟨(gA + 1), 0, none⟩ = some (.int .i64 x3) ∧ wx.cell? ⟨(gA + 1), 1, none⟩ = some (.int .i64 y3) ∧ wx.cell? ⟨(gA + 1), 2, none⟩ = some (.int .i64 x4) ∧ wx.cell? ⟨(gA + 1), 3, none⟩ = some (.int .i64 y4) ∧ wx.cell? ⟨(gA + 1), 4, none⟩ = some (.int .i64 m)) ∧ Below w.heap.size w wx)
  case first => as_aux_lemma =>
    cases okC
    · go_wp2
      go_meet
      exact ⟨Lib.hid cA, hB17⟩
    · have hok := H_okC.out
      have hok2 : gtog x5 y5 x6 y6 n2 x7 y7 x8 y8 m2 = true ∧ inB 0 L 80 = true := by simpa using hok.symm
      obtain ⟨hgC, hLL⟩ := hok2
      obtain ⟨L0, L1⟩ := inB_iff.1 hLL
      obtain ⟨wC, ⟨nC0, nC1⟩, nmC, _⟩ := gtog_way hgC
      have hsC : sC = apSt (x5 - x7) (y5 - y7) (x6 - x8) (y6 - y8) L := by rw [H_sC.out]; rfl
      have hXS : XS = ccs x5 y5 x6 y6 n2 x7 y7 x8 y8 m2 L (n2.toNat + 1) := by rw [H_XS.out]; unfold closeL; rw [show ccOk x5 y5 x6 y6 n2 x7 y7 x8 y8 m2 L = true from hok.symm, if_pos rfl]
      have HI1 := fun W => least_any x5 y5 x6 y6 n2 x7 y7 x8 y8 m2 W
      have HI2 := fun W => specLeast_any x5 y5 x6 y6 n2 x7 y7 x8 y8 m2 W
      rw [hgC] at HI1 HI2
      simp only [guardI_facts.1] at HI1 HI2
      obtain ⟨⟨lb0, lb1⟩, lb2, lb3, _⟩ := low_bd wC
      have hstay := apSt_eq (k := L) wC
      obtain ⟨KK, hKK⟩ : ∃ z, z = aln (x5 - x7) (y5 - y7) (x6 - x8) (y6 - y8) := ⟨_, rfl⟩
      obtain ⟨BB, hBB⟩ : ∃ z, z = ald (x5 - x7) (y5 - y7) (x6 - x8) (y6 - y8) := ⟨_, rfl⟩
      rw [← hKK, ← hBB] at HI1 HI2 hstay
      rw [← hKK] at lb0 lb1
      rw [← hBB] at lb2 lb3
      have LLb := mul_bd (a := L) (b := L) (m := 80) (n := 80) (by omega) (by omega) (by omega) (by omega)
      have LL0 := sq_nonneg L
      have HQ := Lib.hid (fun W => qLess_any KK BB (L * L) 1 lb0 (by omega) lb2 (by omega) LL0 (by omega) (by omega) (by omega) W)
      have hfl : fLt KK BB (L * L) 1 = !sC := by rw [hsC, hstay]; unfold fLt; rw [Int.mul_one, ← decide_not]; exact decide_eq_decide.2 (by omega)
      rw [hfl] at HQ
      obtain ⟨LL, hLLe⟩ : ∃ z, z = L * L := ⟨_, rfl⟩
      have uLL : IntKind.i64.wrap (L * L) = LL := by rw [hLLe]; exact IntWalk.i64_in _ (by omega)
      rw [← hLLe] at HQ
      have hempty : sC = true → XS.length = 0 := fun e => by rw [hXS, stay_none hgC (by rw [← hsC]; exact e) _ (by omega)]; rfl
      have HE := Lib.hid hempty
      have HXS2 := Lib.hid hXS
      have HGC := Lib.hid hgC
      have HLLe := Lib.hid hLLe
      have HI1' := Lib.hid HI1
      have HI2' := Lib.hid HI2
      have HNM := Lib.hid nmC
      clear hok hsC hstay hfl hempty hXS hgC hLLe HI1 HI2 hKK hBB lb0 lb1 lb2 lb3 hLL wC nmC
      go_wp2_with fail
      refine (HI1'.out _).mono ?_
      rintro e w19 ⟨rfl, hb19⟩
      replace cA := bl10 hb19 cA
      replace cC := bl10 hb19 cC
      have hB19 : Below w.heap.size w w19 := hB17.trans (hb19.mono hB17.size)
      replace I2 := I2.below hb19
      go_wp2_with fail
      refine (HI2'.out _).mono ?_
      rintro e w20 ⟨rfl, hb20⟩
      replace cA := bl10 hb20 cA
      replace cC := bl10 hb20 cC
      have hB20 : Below w.heap.size w w20 := hB19.trans (hb20.mono hB19.size)
      replace I2 := I2.below hb20
      obtain ⟨N2, rfl⟩ : ∃ N : Nat, n2 = (N : Int) := ⟨n2.toNat, by omega⟩
      have hx0 : sC = true → (XS.length : Int) = 0 := fun e => by have := HE.out e; omega
      go_upto_region 21 with fail
      go_cut [280] (fun s wx => s = .bool false ∧ Hid (wx.cell? ⟨gA, 0, none⟩ = some (.int .i64 x1) ∧ wx.cell? ⟨gA, 1, none⟩ = some (.int .i64 y1) ∧ wx.cell? ⟨gA, 2, none⟩ = some (.int .i64 x2) ∧ wx.cell? ⟨gA, 3, none⟩ = some (.int .i64 y2) ∧ wx.cell? ⟨gA, 4, none⟩ = some (.int .i64 n) ∧ wx.cell? ⟨(gA + 1), 0, none⟩ = some (.int .i64 x3) ∧ wx.cell? ⟨(gA + 1), 1, none⟩ = some (.int .i64 y3) ∧ wx.cell? ⟨(gA + 1), 2, none⟩ = some (.int .i64 x4) ∧ wx.cell? ⟨(gA + 1), 3, none⟩ = some (.int .i64 y4) ∧ wx.cell? ⟨(gA + 1), 4, none⟩ = some (.int .i64 m)) ∧ Hid (wx.cell? ⟨gC, 0, none⟩ = some (.int .i64 x5) ∧ wx.cell? ⟨gC, 1, none⟩ = some (.int .i64 y5) ∧ wx.cell? ⟨gC, 2, none⟩ = some (.int .i64 x6) ∧ wx.cell? ⟨gC, 3, none⟩ = some (.int .i64 y6) ∧ wx.cell? ⟨gC, 4, none⟩ = some (.int .i64 (N2 : Int)) ∧ wx.cell? ⟨(gC + 1), 0, none⟩ = some (.int .i64 x7) ∧ wx.cell? ⟨(gC + 1), 1, none⟩ = some (.int .i64 y7) ∧ wx.cell? ⟨(gC + 1), 2, none⟩ = some (.int .i64 x8) ∧ wx.cell? ⟨(gC + 1), 3, none⟩ = some (.int .i64 y8) ∧ wx.cell? ⟨(gC + 1), 4, none⟩ = some (.int .i64 m2)) ∧ Hid (IntsAt wx am XS) ∧ Below w.heap.size w wx)
      case first => as_aux_lemma =>
        cases sC
        all_goals try have hxl0 := hx0 rfl
        all_goals clear hx0 HE
        all_goals
          go_wp2_with (go_at_call 44; ((with_reducible refine (HQ.out _).mono ?_); rintro e w21 ⟨rfl, hb21⟩))
          go_meet
          exact ⟨rfl, Lib.hid (bl10 hb21 cA), Lib.hid (bl10 hb21 cC), Lib.hid (I2.below hb21), hB20.trans (hb21.mono hB20.size)⟩
      case rest => as_aux_lemma =>
        obtain ⟨rfl, HcA0, HcC0, HI20, hB21⟩ := hcut
        obtain ⟨w21, rfl⟩ : ∃ x, x = wc := ⟨_, rfl⟩
        have cC' := HcC0.out
        clear cC cA I2 hx0 HE HQ hb19 hb20 hB17 hB19 hB20
        have cC := cC'
        clear cC' HcC0
        have I2 := HI20.out
        clear HI20
        go_wp2
        go_loopw [45] (fun i wr => ∃ k : Nat, k ≤ N2 + 1 ∧ i = .int .i64 (k : Int) ∧ (wr.cell? ⟨gC, 0, none⟩ = some (.int .i64 x5) ∧ wr.cell? ⟨gC, 1, none⟩ = some (.int .i64 y5) ∧ wr.cell? ⟨gC, 2, none⟩ = some (.int .i64 x6) ∧ wr.cell? ⟨gC, 3, none⟩ = some (.int .i64 y6) ∧ wr.cell? ⟨gC, 4, none⟩ = some (.int .i64 (N2 : Int)) ∧ wr.cell? ⟨(gC + 1), 0, none⟩ = some (.int .i64 x7) ∧ wr.cell? ⟨(gC + 1), 1, none⟩ = some (.int .i64 y7) ∧ wr.cell? ⟨(gC + 1), 2, none⟩ = some (.int .i64 x8) ∧ wr.cell? ⟨(gC + 1), 3, none⟩ = some (.int .i64 y8) ∧ wr.cell? ⟨(gC + 1), 4, none⟩ = some (.int .i64 m2)) ∧ Hid (wr.cell? ⟨gA, 0, none⟩ = some (.int .i64 x1) ∧ wr.cell? ⟨gA, 1, none⟩ = some (.int .i64 y1) ∧ wr.cell? ⟨gA, 2, none⟩ = some (.int .i64 x2) ∧ wr.cell? ⟨gA, 3, none⟩ = some (.int .i64 y2) ∧ wr.cell? ⟨gA, 4, none⟩ = some (.int .i64 n) ∧ wr.cell? ⟨(gA + 1), 0, none⟩ = some (.int .i64 x3) ∧ wr.cell? ⟨(gA + 1), 1, none⟩ = some (.int .i64 y3) ∧ wr.cell? ⟨(gA + 1), 2, none⟩ = some (.int .i64 x4) ∧ wr.cell? ⟨(gA + 1), 3, none⟩ = some (.int .i64 y4) ∧ wr.cell? ⟨(gA + 1), 4, none⟩ = some (.int .i64 m)) ∧ IntsAt wr am XS ∧ Below w.heap.size w wr) (fun i _ => N2 + 1 - (intOf i).toNat)
        case atStart => exact ⟨0, Nat.zero_le _, rfl, cC, HcA0, I2, hB21⟩
        case round => as_aux_lemma =>
          clear cC I2 hB21 HcA0
          obtain ⟨k, hk, rfl, cC, HcA, I2, hbr⟩ := hrel
          by_cases hlt : k < N2 + 1
          · have k0 : (0 : Int) ≤ (k : Int) := by omega
            have k1 : (k : Int) ≤ (N2 : Int) := by omega
            have HJ1 := fun W => apartAt_any x5 y5 x6 y6 (N2 : Int) x7 y7 x8 y8 m2 (k : Int) W
            have HJ2 := fun W => specApartAt_any x5 y5 x6 y6 (N2 : Int) x7 y7 x8 y8 m2 (k : Int) W
            have hp : (gtog x5 y5 x6 y6 (N2 : Int) x7 y7 x8 y8 m2 && inB 0 (k : Int) (N2 : Int)) = true := by rw [HGC.out]; exact inB_iff.2 ⟨k0, k1⟩
            rw [hp] at HJ1 HJ2
            simp only [guardI_facts.1] at HJ1 HJ2
            obtain ⟨⟨t0, t1⟩, t2, t3, t4⟩ := at_low (L := L) HGC.out k0 k1
            have ht4 := t4 (L * L) 1
            have hmem := ccs_has (L := L) (x1 := x5) (y1 := y5) (x2 := x6) (y2 := y6) (n := (N2 : Int)) (x3 := x7) (y3 := y7) (x4 := x8) (y4 := y8) (m := m2) k (N2 + 1)
            have hdec : decide ((k : Int) ∈ XS) = clK x5 y5 x6 y6 (N2 : Int) x7 y7 x8 y8 m2 L k := by
              have e1 : ccs x5 y5 x6 y6 (N2 : Int) x7 y7 x8 y8 m2 L ((N2 : Int).toNat + 1) = ccs x5 y5 x6 y6 (N2 : Int) x7 y7 x8 y8 m2 L (N2 + 1) := by rw [Int.toNat_natCast]
              rw [HXS2.out, e1]
              cases hc : clK x5 y5 x6 y6 (N2 : Int) x7 y7 x8 y8 m2 L k
              · exact decide_eq_false (fun e => by rw [hmem] at e; rw [hc] at e; cases e.2)
              · exact decide_eq_true (hmem.2 ⟨hlt, hc⟩)
            obtain ⟨bk, hbk⟩ : ∃ z, z = clK x5 y5 x6 y6 (N2 : Int) x7 y7 x8 y8 m2 L k := ⟨_, rfl⟩
            rw [show fLt (sqAt x5 y5 x6 y6 (N2 : Int) x7 y7 x8 y8 m2 (k : Int)) ((N2 : Int) * (N2 : Int)) (L * L) 1 = bk from hbk.symm] at ht4
            rw [← hbk] at hdec
            obtain ⟨ii, hii⟩ : ∃ z, z = atn x5 y5 x6 y6 (N2 : Int) x7 y7 x8 y8 m2 (k : Int) := ⟨_, rfl⟩
            obtain ⟨jj, hjj⟩ : ∃ z, z = atd x5 y5 x6 y6 (N2 : Int) x7 y7 x8 y8 m2 (k : Int) := ⟨_, rfl⟩
            rw [← hii, ← hjj] at HJ1 HJ2 ht4
            rw [← hii] at t0 t1
            rw [← hjj] at t2 t3
            have HK1 := Lib.hid HJ1
            have HK2 := Lib.hid HJ2
            have HQ2 := Lib.hid (fun W => qLess_any ii jj (L * L) 1 t0 t1 t2 t3 LL0 (by omega) (by omega) (by omega) W)
            rw [ht4, ← HLLe.out] at HQ2
            have HH := Lib.hid (fun (W : World) (h : IntsAt W am XS) => qHas_any am capm XS (k : Int) (by omega) h)
            simp only [hdec] at HH
            clear HJ1 HJ2 hp t0 t1 t2 t3 t4 ht4 hmem hdec hbk hii hjj
            have i2 : ¬ (N2 : Int) < (k : Int) := by omega
            go_wp2_with fail
            refine (HK1.out _).mono ?_
            rintro e wa ⟨rfl, hba⟩
            replace cC := bl10 hba cC
            replace I2 := I2.below hba
            go_wp2_with fail
            refine (HK2.out _).mono ?_
            rintro e wb ⟨rfl, hbb⟩
            replace cC := bl10 hbb cC
            replace I2 := I2.below hbb
            go_wp2_with fail
            refine (HH.out _ I2).mono ?_
            rintro e wd ⟨rfl, hbd⟩
            replace cC := bl10 hbd cC
            replace I2 := I2.below hbd
            go_wp2_with fail
            refine (HQ2.out _).mono ?_
            rintro e we ⟨rfl, hbe⟩
            replace cC := bl10 hbe cC
            replace I2 := I2.below hbe
            have HcA2 := Lib.hid (bl10 hbe (bl10 hbd (bl10 hbb (bl10 hba HcA.out))))
            have hB2 : Below w.heap.size w we := (((hbr.trans (hba.mono hbr.size)).trans (hbb.mono (Nat.le_trans hbr.size hba.size))).trans (hbd.mono (Nat.le_trans (Nat.le_trans hbr.size hba.size) hbb.size))).trans (hbe.mono (Nat.le_trans (Nat.le_trans (Nat.le_trans hbr.size hba.size) hbb.size) hbd.size))
            clear hba hbb hbd hbe HK1 HK2 HQ2 HH HcA hbr
            go_wp2
            go_roundw
            case rel => exact ⟨k + 1, by omega, by go_num, cC, HcA2, I2, hB2⟩
            case measure => simp [intOf]; omega
          · obtain rfl : k = N2 + 1 := by omega
            have i3 : ¬ (((N2 + 1 : Nat) : Int) ≤ (N2 : Int)) := by omega
            go_wp2
            go_meet
            exact ⟨HcA, hbr⟩
  case rest => as_aux_lemma =>
    obtain ⟨HcA, hB18⟩ := hcut
    obtain ⟨w18, rfl⟩ : ∃ x, x = wc := ⟨_, rfl⟩
    clear cA cC I2 hB17
    have cA := HcA.out
    clear HcA
    clear HY1 HY2
    cases okA
    · go_wp2
      go_ret
      exact ⟨rfl, hB18⟩
    · have hg : gtog x1 y1 x2 y2 n x3 y3 x4 y4 m = true := H_okA.out.symm
      have hP : P = aln (x1 - x3) (y1 - y3) (x2 - x4) (y2 - y4) := by rw [H_P.out, hg, guardI_facts.1]
      have hQ : Q = ald (x1 - x3) (y1 - y3) (x2 - x4) (y2 - y4) := by rw [H_Q.out, hg, guardI_facts.1]
      have hT : T = ctn (x1 - x3) (y1 - y3) (x2 - x4) (y2 - y4) n := by rw [H_T.out, hg, guardI_facts.1]
      have hU : U = ctd (x1 - x3) (y1 - y3) (x2 - x4) (y2 - y4) n := by rw [H_U.out, hg, guardI_facts.1]
      obtain ⟨wA, ⟨nA0, nA1⟩, nmA, _⟩ := gtog_way hg
      have hct := ct_facts hg
      rw [← hP, ← hQ, ← hT, ← hU] at hct
      obtain ⟨U1, T0, TU, Q1, P0, U9⟩ := hct
      obtain ⟨⟨_, pb1⟩, _, qb3, _⟩ := low_bd wA
      rw [← hP] at pb1
      rw [← hQ] at qb3
      have hgs : gtog x3 y3 x4 y4 m x1 y1 x2 y2 n = true := by have e := gtog_iff.1 hg; exact gtog_iff.2 ⟨e.2.1, e.1, e.2.2.symm⟩
      have HI0 := fun W => least_any x3 y3 x4 y4 m x1 y1 x2 y2 n W
      rw [hgs, (aln_swap x1 y1 x2 y2 x3 y3 x4 y4).1, (aln_swap x1 y1 x2 y2 x3 y3 x4 y4).2, ← hP, ← hQ] at HI0
      simp only [guardI_facts.1] at HI0
      have HI := Lib.hid HI0
      obtain ⟨V, hV⟩ : ∃ z, z = n * U := ⟨_, rfl⟩
      have nU := mul_bd (a := n) (b := U) (m := 64) (n := 8359936) (by omega) (by omega) (by omega) (by omega)
      rw [← hV] at TU nU
      have uV : IntKind.i64.wrap (n * U) = V := by rw [hV]; exact IntWalk.i64_in _ (by omega)
      have e1 : ¬ Q < 1 := by omega
      have e2 : ¬ P < 0 := by omega
      have e3 : ¬ U < 1 := by omega
      have e4 : ¬ T < 0 := by omega
      have e5 : ¬ V < T := by omega
      have HG := Lib.hid hg
      have HP := Lib.hid hP
      have HQ := Lib.hid hQ
      have HT := Lib.hid hT
      have HU := Lib.hid hU
      have HPB := Lib.hid (And.intro (And.intro P0 pb1) (And.intro Q1 qb3))
      clear hg hP hQ hT hU wA nmA U1 T0 TU Q1 P0 U9 pb1 qb3 hgs HI0 hV nU H_P H_Q H_T H_U H_okA
      go_wp2_with fail
      refine (HI.out _).mono ?_
      rintro e w19 ⟨rfl, hb19⟩
      replace cA := bl10 hb19 cA
      have hB19 : Below w.heap.size w w19 := hB18.trans (hb19.mono hB18.size)
      clear HI hb19 hB18
      obtain ⟨N, rfl⟩ : ∃ N : Nat, n = (N : Int) := ⟨n.toNat, by omega⟩
      go_upto_region 33 with fail
      go_cut [375] (fun s wx => s = .bool false ∧ Hid (wx.cell? ⟨gA, 0, none⟩ = some (.int .i64 x1) ∧ wx.cell? ⟨gA, 1, none⟩ = some (.int .i64 y1) ∧ wx.cell? ⟨gA, 2, none⟩ = some (.int .i64 x2) ∧ wx.cell? ⟨gA, 3, none⟩ = some (.int .i64 y2) ∧ wx.cell? ⟨gA, 4, none⟩ = some (.int .i64 (N : Int)) ∧ wx.cell? ⟨(gA + 1), 0, none⟩ = some (.int .i64 x3) ∧ wx.cell? ⟨(gA + 1), 1, none⟩ = some (.int .i64 y3) ∧ wx.cell? ⟨(gA + 1), 2, none⟩ = some (.int .i64 x4) ∧ wx.cell? ⟨(gA + 1), 3, none⟩ = some (.int .i64 y4) ∧ wx.cell? ⟨(gA + 1), 4, none⟩ = some (.int .i64 m)) ∧ Below w.heap.size w wx)
      case first => as_aux_lemma =>
        clear HG HP HQ HT HU HPB hn' hv1 nA0 nA1
        set_option maxHeartbeats 400000 in go_wp2
        go_meet
        exact ⟨by rw [decide_eq_false (show ¬ Q < 1 by omega), decide_eq_false (show ¬ P < 0 by omega), decide_eq_false (show ¬ U < 1 by omega), decide_eq_false (show ¬ T < 0 by omega), decide_eq_false (show ¬ V < T by omega)]; rfl, Lib.hid cA, hB19⟩
      case rest => as_aux_lemma =>
        obtain ⟨rfl, HcA0, hB20⟩ := hcut
        obtain ⟨w20, rfl⟩ : ∃ x, x = wc := ⟨_, rfl⟩
        clear e1 e2 e3 e4 e5 uV cA hB19
        have cA := HcA0.out
        clear HcA0
        go_wp2
        go_loopw [55] (fun i wr => ∃ k : Nat, k ≤ N + 1 ∧ i = .int .i64 (k : Int) ∧ (wr.cell? ⟨gA, 0, none⟩ = some (.int .i64 x1) ∧ wr.cell? ⟨gA, 1, none⟩ = some (.int .i64 y1) ∧ wr.cell? ⟨gA, 2, none⟩ = some (.int .i64 x2) ∧ wr.cell? ⟨gA, 3, none⟩ = some (.int .i64 y2) ∧ wr.cell? ⟨gA, 4, none⟩ = some (.int .i64 (N : Int)) ∧ wr.cell? ⟨(gA + 1), 0, none⟩ = some (.int .i64 x3) ∧ wr.cell? ⟨(gA + 1), 1, none⟩ = some (.int .i64 y3) ∧ wr.cell? ⟨(gA + 1), 2, none⟩ = some (.int .i64 x4) ∧ wr.cell? ⟨(gA + 1), 3, none⟩ = some (.int .i64 y4) ∧ wr.cell? ⟨(gA + 1), 4, none⟩ = some (.int .i64 m)) ∧ Below w.heap.size w wr) (fun i _ => N + 1 - (intOf i).toNat)
        case atStart => exact ⟨0, Nat.zero_le _, rfl, cA, hB20⟩
        case round => as_aux_lemma =>
          clear cA hB20
          obtain ⟨k, hk, rfl, cA, hbr⟩ := hrel
          by_cases hlt : k < N + 1
          · have k0 : (0 : Int) ≤ (k : Int) := by omega
            have k1 : (k : Int) ≤ (N : Int) := by omega
            have HJ1 := fun W => apartAt_any x1 y1 x2 y2 (N : Int) x3 y3 x4 y4 m (k : Int) W
            have HJ2 := fun W => specApartAt_any x1 y1 x2 y2 (N : Int) x3 y3 x4 y4 m (k : Int) W
            have hp : (gtog x1 y1 x2 y2 (N : Int) x3 y3 x4 y4 m && inB 0 (k : Int) (N : Int)) = true := by rw [HG.out]; exact inB_iff.2 ⟨k0, k1⟩
            rw [hp] at HJ1 HJ2
            simp only [guardI_facts.1] at HJ1 HJ2
            obtain ⟨⟨t0, t1⟩, t2, t3, _⟩ := at_low (L := 0) HG.out k0 k1
            have hnl := at_not_less HG.out k0 k1
            rw [← HP.out, ← HQ.out] at hnl
            have hti : U = 1 → (k : Int) = T → atn x1 y1 x2 y2 (N : Int) x3 y3 x4 y4 m (k : Int) = P ∧ atd x1 y1 x2 y2 (N : Int) x3 y3 x4 y4 m (k : Int) = Q := by
              intro d1 d2
              rw [HP.out, HQ.out]
              exact at_time HG.out k0 k1 (by rw [← HU.out]; exact d1) (by rw [← HT.out]; exact d2)
            obtain ⟨ii, hii⟩ : ∃ z, z = atn x1 y1 x2 y2 (N : Int) x3 y3 x4 y4 m (k : Int) := ⟨_, rfl⟩
            obtain ⟨jj, hjj⟩ : ∃ z, z = atd x1 y1 x2 y2 (N : Int) x3 y3 x4 y4 m (k : Int) := ⟨_, rfl⟩
            rw [← hii, ← hjj] at HJ1 HJ2 hnl hti
            rw [← hii] at t0 t1
            rw [← hjj] at t2 t3
            have HK1 := Lib.hid HJ1
            have HK2 := Lib.hid HJ2
            obtain ⟨⟨P0, pb1⟩, Q1, qb3⟩ := HPB.out
            have HQ2 := Lib.hid (fun W => qLess_any ii jj P Q t0 t1 t2 t3 P0 (by omega) (by omega) (by omega) W)
            rw [hnl] at HQ2
            have HTI := Lib.hid hti
            clear HJ1 HJ2 hp t0 t1 t2 t3 hnl hti hii hjj P0 pb1 Q1 qb3
            have i2 : ¬ (N : Int) < (k : Int) := by omega
            go_wp2_with fail
            refine (HK1.out _).mono ?_
            rintro e wa ⟨rfl, hba⟩
            replace cA := bl10 hba cA
            go_wp2_with fail
            refine (HK2.out _).mono ?_
            rintro e wb ⟨rfl, hbb⟩
            replace cA := bl10 hbb cA
            have hB2 : Below w.heap.size w wb := ((hbr.trans (hba.mono hbr.size)).trans (hbb.mono (Nat.le_trans hbr.size hba.size)))
            clear hba hbb HK1 HK2 hbr HG HP HQ HT HU HPB
            go_upto_region 40 with fail
            go_cut [439] (fun s wx => s = .bool false ∧ Hid (wx.cell? ⟨gA, 0, none⟩ = some (.int .i64 x1) ∧ wx.cell? ⟨gA, 1, none⟩ = some (.int .i64 y1) ∧ wx.cell? ⟨gA, 2, none⟩ = some (.int .i64 x2) ∧ wx.cell? ⟨gA, 3, none⟩ = some (.int .i64 y2) ∧ wx.cell? ⟨gA, 4, none⟩ = some (.int .i64 (N : Int)) ∧ wx.cell? ⟨(gA + 1), 0, none⟩ = some (.int .i64 x3) ∧ wx.cell? ⟨(gA + 1), 1, none⟩ = some (.int .i64 y3) ∧ wx.cell? ⟨(gA + 1), 2, none⟩ = some (.int .i64 x4) ∧ wx.cell? ⟨(gA + 1), 3, none⟩ = some (.int .i64 y4) ∧ wx.cell? ⟨(gA + 1), 4, none⟩ = some (.int .i64 m)) ∧ Below w.heap.size w wx)
            case first => as_aux_lemma =>
              go_wp2_with (go_at_call 44; ((with_reducible refine (HQ2.out _).mono ?_); rintro e wd ⟨rfl, hbd⟩))
              go_meet
              refine ⟨?_, Lib.hid (bl10 hbd cA), hB2.trans (hbd.mono hB2.size)⟩
              have hti := HTI.out
              by_cases hu : U = 1
              · by_cases hk' : (k : Int) = T
                · obtain ⟨hi, hj⟩ := hti hu hk'
                  simp [hu, hk', hi, hj]
                · simp [hk']
              · simp [hu]
            case rest =>
              clear HQ2 HTI cA hB2
              obtain ⟨rfl, HcA1, hB2⟩ := hcut
              obtain ⟨w21, rfl⟩ : ∃ x, x = wc := ⟨_, rfl⟩
              have cA := HcA1.out
              clear HcA1
              go_wp2
              go_roundw
              case rel => exact ⟨k + 1, by omega, by go_num, cA, hB2⟩
              case measure => simp [intOf]; omega
          · obtain rfl : k = N + 1 := by omega
            have i3 : ¬ (((N + 1 : Nat) : Int) ≤ (N : Int)) := by omega
            go_wp2
            go_ret
            exact ⟨rfl, hbr⟩

end Go.Proofs.Ytjojjmmdgldcbaa
