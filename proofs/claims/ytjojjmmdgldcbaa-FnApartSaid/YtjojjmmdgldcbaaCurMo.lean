/- Drawn moves, by their boxes. No conditions but those written in each theorem. -/
import Derived.Test.YtjojjmmdgldcbaaCurMv
import Derived.Deep.RegionHeld3
import Derived.Deep.DrawnRows
import Derived.IntWalk
import Derived.Laws.AppendOwn
import Derived.Deep.DeepCutAuto
namespace Go.Proofs.Ytjojjmmdgldcbaa
open Go.RowKit


attribute [local go_sem ↓] Go.wp_at_zero Go.wp_at_succ

/-- The cells of a move. -/
def mF (x1 y1 x2 y2 n : Int) : Nat → Value
  | 0 => .int .i64 x1
  | 1 => .int .i64 y1
  | 2 => .int .i64 x2
  | 3 => .int .i64 y2
  | _ => .int .i64 n
theorem mF_made (w : World) (x1 y1 x2 y2 n : Int) (t : TypeId) : (w.alloc (.cells #[.int .i64 x1, .int .i64 y1, .int .i64 x2, .int .i64 y2, .int .i64 n] t)).rowIs w.heap.size t 5 (mF x1 y1 x2 y2 n) := by
  refine ⟨#[.int .i64 x1, .int .i64 y1, .int .i64 x2, .int .i64 y2, .int .i64 n], (MapKept.heap_alloc w _).1, rfl, fun c hc => ?_⟩
  match c, hc with
  | 0, _ => rfl
  | 1, _ => rfl
  | 2, _ => rfl
  | 3, _ => rfl
  | 4, _ => rfl
theorem mF_set0 {t : TypeId} {w : World} {g : Nat} {x1 y1 x2 y2 n : Int} (v : Int) (h : w.rowIs g t 5 (mF x1 y1 x2 y2 n)) : (w.setCell ⟨g, 0, none⟩ (.int .i64 v)).rowIs g t 5 (mF v y1 x2 y2 n) :=
  (h.set 0 _).congr fun i hi => by
    match i, hi with
    | 0, _ => rfl
    | 1, _ => rfl
    | 2, _ => rfl
    | 3, _ => rfl
    | 4, _ => rfl
theorem mF_set1 {t : TypeId} {w : World} {g : Nat} {x1 y1 x2 y2 n : Int} (v : Int) (h : w.rowIs g t 5 (mF x1 y1 x2 y2 n)) : (w.setCell ⟨g, 1, none⟩ (.int .i64 v)).rowIs g t 5 (mF x1 v x2 y2 n) :=
  (h.set 1 _).congr fun i hi => by
    match i, hi with
    | 0, _ => rfl
    | 1, _ => rfl
    | 2, _ => rfl
    | 3, _ => rfl
    | 4, _ => rfl
theorem mF_set2 {t : TypeId} {w : World} {g : Nat} {x1 y1 x2 y2 n : Int} (v : Int) (h : w.rowIs g t 5 (mF x1 y1 x2 y2 n)) : (w.setCell ⟨g, 2, none⟩ (.int .i64 v)).rowIs g t 5 (mF x1 y1 v y2 n) :=
  (h.set 2 _).congr fun i hi => by
    match i, hi with
    | 0, _ => rfl
    | 1, _ => rfl
    | 2, _ => rfl
    | 3, _ => rfl
    | 4, _ => rfl
theorem mF_set3 {t : TypeId} {w : World} {g : Nat} {x1 y1 x2 y2 n : Int} (v : Int) (h : w.rowIs g t 5 (mF x1 y1 x2 y2 n)) : (w.setCell ⟨g, 3, none⟩ (.int .i64 v)).rowIs g t 5 (mF x1 y1 x2 v n) :=
  (h.set 3 _).congr fun i hi => by
    match i, hi with
    | 0, _ => rfl
    | 1, _ => rfl
    | 2, _ => rfl
    | 3, _ => rfl
    | 4, _ => rfl
theorem mF_set4 {t : TypeId} {w : World} {g : Nat} {x1 y1 x2 y2 n : Int} (v : Int) (h : w.rowIs g t 5 (mF x1 y1 x2 y2 n)) : (w.setCell ⟨g, 4, none⟩ (.int .i64 v)).rowIs g t 5 (mF x1 y1 x2 y2 v) :=
  (h.set 4 _).congr fun i hi => by
    match i, hi with
    | 0, _ => rfl
    | 1, _ => rfl
    | 2, _ => rfl
    | 3, _ => rfl
    | 4, _ => rfl
theorem mF_cells {t : TypeId} {w : World} {g : Nat} {x1 y1 x2 y2 n : Int} (h : w.rowIs g t 5 (mF x1 y1 x2 y2 n)) : w.cell? ⟨g, 0, none⟩ = some (.int .i64 x1) ∧ w.cell? ⟨g, 1, none⟩ = some (.int .i64 y1) ∧ w.cell? ⟨g, 2, none⟩ = some (.int .i64 x2) ∧ w.cell? ⟨g, 3, none⟩ = some (.int .i64 y2) ∧ w.cell? ⟨g, 4, none⟩ = some (.int .i64 n) ∧
    w.frozen? ⟨g, 0, none⟩ = false ∧ w.frozen? ⟨g, 1, none⟩ = false ∧ w.frozen? ⟨g, 2, none⟩ = false ∧ w.frozen? ⟨g, 3, none⟩ = false ∧ w.frozen? ⟨g, 4, none⟩ = false :=
  ⟨h.cell (i := 0) (by omega), h.cell (i := 1) (by omega), h.cell (i := 2) (by omega), h.cell (i := 3) (by omega), h.cell (i := 4) (by omega), h.frozen 0, h.frozen 1, h.frozen 2, h.frozen 3, h.frozen 4⟩
theorem row_gb {t : TypeId} {w w' : World} {g b m : Nat} {f : Nat → Value} (h : w.rowIs g t m f) (hg : w.grownBy w' (some b)) (hne : g ≠ b) : w'.rowIs g t m f :=
  h.of_block (hg.block g h.lt (fun e => hne (Option.some.inj e)))
theorem amongN_any (g c1 m : Nat) (xs : List Int) (hm : xs.length = m) (h0 : 1 ≤ m) (h1 : m ≤ 1000) (b n cp k : Nat) (a : Option Addr) (hk : k ≤ 900000000) {w : World} (hc : Cu w b a n cp k) (hl : LsAt w g xs) (hne : g ≠ b) :
    Calls Try.prog 85 #[.pointer (some ⟨b, 0, none⟩), .slice (some ⟨g, 0, none⟩) m c1] w fun e w' => ∃ r : Int, e = .returned (.int .i64 r) ∧ r ∈ xs ∧ Cu w' b a n cp (k + 2) ∧ w.grownBy w' (some b) := by
  subst hm
  exact amongL_any g c1 xs h0 h1 b n cp k a hk hc hl hne
theorem ls2 {w : World} (a0 a1 : Int) (t : TypeId) : LsAt (w.alloc (.cells #[.int .i64 a0, .int .i64 a1] t)) w.heap.size [a0, a1] := ls_alloc [a0, a1] t
theorem ls3 {w : World} (a0 a1 a2 : Int) (t : TypeId) : LsAt (w.alloc (.cells #[.int .i64 a0, .int .i64 a1, .int .i64 a2] t)) w.heap.size [a0, a1, a2] := ls_alloc [a0, a1, a2] t
theorem ls4 {w : World} (a0 a1 a2 a3 : Int) (t : TypeId) : LsAt (w.alloc (.cells #[.int .i64 a0, .int .i64 a1, .int .i64 a2, .int .i64 a3] t)) w.heap.size [a0, a1, a2, a3] := ls_alloc [a0, a1, a2, a3] t
theorem ls5 {w : World} (a0 a1 a2 a3 a4 : Int) (t : TypeId) : LsAt (w.alloc (.cells #[.int .i64 a0, .int .i64 a1, .int .i64 a2, .int .i64 a3, .int .i64 a4] t)) w.heap.size [a0, a1, a2, a3, a4] := ls_alloc [a0, a1, a2, a3, a4] t
theorem ls6 {w : World} (a0 a1 a2 a3 a4 a5 : Int) (t : TypeId) : LsAt (w.alloc (.cells #[.int .i64 a0, .int .i64 a1, .int .i64 a2, .int .i64 a3, .int .i64 a4, .int .i64 a5] t)) w.heap.size [a0, a1, a2, a3, a4, a5] := ls_alloc [a0, a1, a2, a3, a4, a5] t
theorem ls7 {w : World} (a0 a1 a2 a3 a4 a5 a6 : Int) (t : TypeId) : LsAt (w.alloc (.cells #[.int .i64 a0, .int .i64 a1, .int .i64 a2, .int .i64 a3, .int .i64 a4, .int .i64 a5, .int .i64 a6] t)) w.heap.size [a0, a1, a2, a3, a4, a5, a6] := ls_alloc [a0, a1, a2, a3, a4, a5, a6] t
theorem ls8 {w : World} (a0 a1 a2 a3 a4 a5 a6 a7 : Int) (t : TypeId) : LsAt (w.alloc (.cells #[.int .i64 a0, .int .i64 a1, .int .i64 a2, .int .i64 a3, .int .i64 a4, .int .i64 a5, .int .i64 a6, .int .i64 a7] t)) w.heap.size [a0, a1, a2, a3, a4, a5, a6, a7] := ls_alloc [a0, a1, a2, a3, a4, a5, a6, a7] t

set_option maxRecDepth 100000 in
set_option maxHeartbeats 8000000 in
theorem moveC_any (b n cp k : Nat) (a : Option Addr) (hk : k ≤ 700000000) {w : World} (hc : Cu w b a n cp k) :
    Calls Try.prog 101 #[.pointer (some ⟨b, 0, none⟩)] w fun e w' => ∃ x1 y1 x2 y2 c : Int, e = .returned (.agg #[.int .i64 x1, .int .i64 y1, .int .i64 x2, .int .i64 y2, .int .i64 c]) ∧ (0 ≤ c ∧ c ≤ 65) ∧ Cu w' b a n cp (k + 100) ∧ w.grownBy w' (some b) := by
  have hbl := hc.lt
  have HC0 := Lib.hid hc
  go_enter Try.func101, Try.ntmps101
  go_wp2_with fail
  refine (spotC_any b n cp k a (by omega) (hc.made _)).mono ?_
  rintro e w1 ⟨x, y, rfl, hc1, hg1⟩
  have hl1 := hc1.lt
  go_wp2_with fail
  refine (pick_any 64 (by omega) b n cp (k + 12) a (by omega) hc1).mono ?_
  rintro e w2 ⟨r2, rfl, p20, p21, hc2, hg2⟩
  have v2 : IntKind.i64.wrap (1 + r2) = 1 + r2 := IntWalk.i64_in _ (by omega)
  have hl2 := hc2.lt
  go_wp2_with fail
  refine (amongL_any w2.heap.size 8 [1, 2, 4, 8, 8, 12, 16, 1 + r2] (by simp) (by simp) b n cp (k + 12 + 2) a (by omega) (hc2.made _) (ls_alloc [1, 2, 4, 8, 8, 12, 16, 1 + r2] _) (by omega)).mono ?_
  rintro e w3 ⟨r3, rfl, p3, hc3, hg3⟩
  have hr3 : 1 ≤ r3 ∧ r3 ≤ 64 := by simp at p3; omega
  have hl3 := hc3.lt
  have G : (w.alloc (.cells #[.int .i64 0, .int .i64 0, .int .i64 0, .int .i64 0, .int .i64 0] 30)).grownBy w3 (some b) := gb_trans (gb_made (gb_trans hg1 hg2) _) hg3
  have hsz := G.size
  simp at hsz
  have R0 := row_gb (mF_made w 0 0 0 0 0 30) G (by omega)
  have hgm0 : w3.heap.size ≠ b := by omega
  go_upto_region 2 with fail
  obtain ⟨W0, hW0⟩ : ∃ W0, W0 = w3.alloc (.cells #[.int .i64 x, .int .i64 y, .int .i64 0, .int .i64 0, .int .i64 r3] 30) := ⟨_, rfl⟩
  have RM : W0.rowIs w3.heap.size 30 5 (mF x y 0 0 r3) := by rw [hW0]; exact mF_made _ _ _ _ _ _ _
  have RZ : W0.rowIs w.heap.size 30 5 (mF 0 0 0 0 0) := by rw [hW0]; exact R0.alloc _
  have hcA : Cu W0 b a n cp (k + 12 + 2 + 2) := by rw [hW0]; exact hc3.made _
  have GW : w.grownBy W0 (some b) := by rw [hW0]; exact gb_made (gb_trans (gb_made (gb_refl _ _) _) G) _
  have hsW : W0.heap.size = w3.heap.size + 1 := by rw [hW0]; simp
  rw [← hW0]
  obtain ⟨gm, hgme⟩ : ∃ g, g = w3.heap.size := ⟨_, rfl⟩
  rw [← hgme] at RM hgm0 hsW hsz ⊢
  have hgm : gm ≠ b := hgm0
  clear hW0 hc1 hc2 hc3 hg1 hg2 hg3 G R0 hc p20 p21 v2 p3 hl1 hl2 hl3 hgme hgm0
  obtain ⟨m0, m1, m2, m3, m4, mf0, mf1, mf2, mf3, mf4⟩ := mF_cells RM
  go_cut [3] (fun s wx => ∃ X Y : Int, (s = .pointer (some ⟨gm, 0, none⟩) ∧ Hid (wx.rowIs gm 30 5 (mF x y X Y r3)) ∧ Hid (wx.rowIs w.heap.size 30 5 (mF 0 0 0 0 0)) ∧ Cu wx b a n cp (k + 30) ∧ w.grownBy wx (some b)))
  case first =>
    go_region_held3 (fun w' => w'.cell? ⟨gm, 0, none⟩ = some (.int .i64 x) ∧ w'.cell? ⟨gm, 1, none⟩ = some (.int .i64 y)) ((first | (rename_i hH K0 hK0; obtain ⟨k0, k1⟩ := hH; first | with_reducible exact ⟨k0, k1⟩ | with_reducible exact ⟨gb_cell hg1 hgm k0, gb_cell hg1 hgm k1⟩ | with_reducible exact ⟨(World.cell?_alloc_past _ _ _ (World.block_lt_of_cell? _ _ k0)).trans k0, (World.cell?_alloc_past _ _ _ (World.block_lt_of_cell? _ _ k1)).trans k1⟩) | exact ⟨m0, m1⟩ | (refine ⟨?_, ?_⟩ <;> first | (go_keep; done) | (simp [*, World.cell?_alloc_past, World.cell?_setCell_far]; done) | (simp [*, World.cell?_alloc_past, World.cell?_alloc_at, World.cell?_setCell_far]; done) | (go_simp; done))))
      (first
      | (go_at_call 86; (with_reducible refine (pick_any 200 (by omega) b n cp (k + 12 + 2 + 2) a (by omega) hcA.drewC).mono ?_); rintro e w1 ⟨ra, rfl, pa0, pa1, hcB, hg1⟩; have hlB := hcB.lt; have G1 : W0.grownBy w1 (some b) := gb_trans (gb_drewC (gb_refl _ _)) hg1)
      | (go_at_call 85; (with_reducible refine (amongN_any _ 6 6 [0, 8, 12, 16, 64, ra] rfl (by omega) (by omega) b n cp (k + 12 + 2 + 2 + 2) a (by omega) (hcB.made _) (ls6 0 8 12 16 64 ra _) (by omega)).mono ?_); rintro e w1 ⟨rb, rfl, pb, hcC, hg1⟩; have hlC := hcC.lt; have G2 := gb_trans (gb_made G1 _) hg1)
      | (go_at_call 86; (with_reducible refine (pick_any 200 (by omega) b n cp (k + 12 + 2 + 2 + 2 + 2) a (by omega) hcC).mono ?_); rintro e w1 ⟨rc, rfl, pc0, pc1, hcD, hg1⟩; have hlD := hcD.lt; have G3 := gb_trans G2 hg1)
      | (go_at_call 85; (with_reducible refine (amongN_any _ 5 5 [0, 8, 16, 64, rc] rfl (by omega) (by omega) b n cp (k + 12 + 2 + 2 + 2 + 2 + 2) a (by omega) (hcD.made _) (ls5 0 8 16 64 rc _) (by omega)).mono ?_); rintro e w1 ⟨rd, rfl, pd, hcE, hg1⟩; have hlE := hcE.lt; have G4 := gb_trans (gb_made G3 _) hg1; have R4 := row_gb RM G4 hgm; obtain ⟨n0, n1, n2, n3, n4, nf0, nf1, nf2, nf3, nf4⟩ := mF_cells R4)
      | (go_at_call 93; ((with_reducible refine (l1Least_any _ _ _).mono ?_); rintro e w' ⟨rfl, rfl⟩))
      | (go_at_call 87; ((with_reducible refine (l1Most_any _ _ _).mono ?_); rintro e w' ⟨rfl, rfl⟩)))
    all_goals
      have R5 := Lib.hid (mF_set3 (hi2 0 (IntKind.i64.wrap (y - rd))) (mF_set2 (lo2 1280 (IntKind.i64.wrap (x + rb))) R4))
      have RZ4 := row_gb RZ G4 (by omega)
      have RZ5 := Lib.hid ((RZ4.setOther (a := ⟨gm, 2, none⟩) (by show w.heap.size ≠ gm; omega) (.int .i64 (lo2 1280 (IntKind.i64.wrap (x + rb))))).setOther (a := ⟨gm, 3, none⟩) (by show w.heap.size ≠ gm; omega) (.int .i64 (hi2 0 (IntKind.i64.wrap (y - rd)))))
      have hgs : w1.grownBy ((w1.setCell ⟨gm, 2, none⟩ (.int .i64 (lo2 1280 (IntKind.i64.wrap (x + rb))))).setCell ⟨gm, 3, none⟩ (.int .i64 (hi2 0 (IntKind.i64.wrap (y - rd))))) (some gm) := gb_trans (gb_set _ _ _ _) (gb_set _ _ _ _)
      have C5 := Lib.hid ((HC0.out.awayB hcE hgs (le_some (by omega))).more (show _ ≤ k + 30 by omega))
      have G5 := Lib.hid (gb_ownB (gb_trans GW G4) hgs (le_some (by omega)))
      clear hgs RZ4 R4 G1 G2 G3 G4 hcB hcC hcD hcE
      go_wp2
      go_meet
      exact ⟨_, _, rfl, R5, RZ5, C5.out, G5.out⟩
  case rest =>
    obtain ⟨X, Y, rfl, RM1, RZ1, hcx, GW1⟩ := hcut
    obtain ⟨W5, rfl⟩ : ∃ x, x = wc := ⟨_, rfl⟩
    clear RM RZ hcA GW hsW m0 m1 m2 m3 m4 mf0 mf1 mf2 mf3 mf4
    go_wp2_with fail
    refine (pick_any 24 (by omega) b n cp (k + 30) a (by omega) hcx).mono ?_
    rintro e w6 ⟨r6, rfl, p60, p61, hc6, hg6⟩
    have hl6 := hc6.lt
    have RM6 := Lib.hid (row_gb RM1.out hg6 hgm)
    have RZ6 := Lib.hid (row_gb RZ1.out hg6 (by omega))
    have GW6 := Lib.hid (gb_trans GW1 hg6)
    have HC6 := Lib.hid hc6
    have HQ := Lib.hid (le_some (Nat.le_refl w.heap.size))
    have HQ1 := Lib.hid (le_some (show w.heap.size ≤ gm by omega))
    have n1' : ¬ w.heap.size = gm := by omega
    have n2' : ¬ gm = w.heap.size := by omega
    clear RM1 RZ1 GW1 hg6 hcx hc6 p60 p61
    by_cases q0 : r6 = 0
    · subst q0
      go_wp2_with fail
      refine (amongL_any w6.heap.size 3 [0, 64, 65] (by simp) (by simp) b n cp (k + 30 + 2) a (by omega) (HC6.out.made _) (ls_alloc [0, 64, 65] _) (by omega)).mono ?_
      rintro e w7 ⟨r7, rfl, p7, hc7, hg7⟩
      have gw := gb_trans (gb_made (gb_refl w6 (some b)) (.cells #[.int .i64 0, .int .i64 64, .int .i64 65] 3)) hg7
      have RM7 := row_gb RM6.out gw hgm
      have RZ7 := row_gb RZ6.out gw (by omega)
      have HGW := Lib.hid (gb_trans GW6.out gw)
      have HC7 := Lib.hid hc7
      clear hg7
      clear gw hc7
      obtain ⟨m0, m1, m2, m3, m4, mf0, mf1, mf2, mf3, mf4⟩ := mF_cells RM7
      obtain ⟨z0, z1, z2, z3, z4, zf0, zf1, zf2, zf3, zf4⟩ := mF_cells RZ7
      clear RM7 RZ7
      go_wp2
      have hs0 : w7.grownBy (w7.setCell ⟨gm, 4, none⟩ (.int .i64 r7)) (some gm) := (gb_set _ _ _ _)
      have hs : (w7.setCell ⟨gm, 4, none⟩ (.int .i64 r7)).grownBy ((((((w7.setCell ⟨gm, 4, none⟩ (.int .i64 r7)).setCell ⟨w.heap.size, 0, none⟩ (.int .i64 x)).setCell ⟨w.heap.size, 1, none⟩ (.int .i64 y)).setCell ⟨w.heap.size, 2, none⟩ (.int .i64 X)).setCell ⟨w.heap.size, 3, none⟩ (.int .i64 Y)).setCell ⟨w.heap.size, 4, none⟩ (.int .i64 r7)) (some w.heap.size) := (gb_trans (gb_trans (gb_trans (gb_trans (gb_set _ _ _ _) (gb_set _ _ _ _)) (gb_set _ _ _ _)) (gb_set _ _ _ _)) (gb_set _ _ _ _))
      have P1 := Lib.hid (HC0.out.awayB (HC0.out.awayB HC7.out hs0 HQ1.out) hs HQ.out)
      have P2 := Lib.hid (gb_ownB (gb_ownB HGW.out hs0 HQ1.out) hs HQ.out)
      exact bodyPost_ret (v := .agg #[.int .i64 x, .int .i64 y, .int .i64 X, .int .i64 Y, .int .i64 r7]) (by simp [results, Try.results101, go_sem, *]) rfl ⟨x, y, X, Y, r7, rfl, by simp at p7; omega, P1.out.more (by omega), P2.out⟩
    by_cases q1 : r6 = 1
    · subst q1
      go_wp2_with fail
      refine (anySpotC_any b n cp (k + 30 + 2) a (by omega) HC6.out).mono ?_
      rintro e w7 ⟨x', y', rfl, hc7, gw⟩
      have RM7 := row_gb RM6.out gw hgm
      have RZ7 := row_gb RZ6.out gw (by omega)
      have HGW := Lib.hid (gb_trans GW6.out gw)
      have HC7 := Lib.hid hc7
      clear gw hc7
      obtain ⟨m0, m1, m2, m3, m4, mf0, mf1, mf2, mf3, mf4⟩ := mF_cells RM7
      obtain ⟨z0, z1, z2, z3, z4, zf0, zf1, zf2, zf3, zf4⟩ := mF_cells RZ7
      clear RM7 RZ7
      go_wp2
      have hs0 : w7.grownBy ((w7.setCell ⟨gm, 0, none⟩ (.int .i64 x')).setCell ⟨gm, 1, none⟩ (.int .i64 y')) (some gm) := (gb_trans (gb_set _ _ _ _) (gb_set _ _ _ _))
      have hs : ((w7.setCell ⟨gm, 0, none⟩ (.int .i64 x')).setCell ⟨gm, 1, none⟩ (.int .i64 y')).grownBy (((((((w7.setCell ⟨gm, 0, none⟩ (.int .i64 x')).setCell ⟨gm, 1, none⟩ (.int .i64 y')).setCell ⟨w.heap.size, 0, none⟩ (.int .i64 x')).setCell ⟨w.heap.size, 1, none⟩ (.int .i64 y')).setCell ⟨w.heap.size, 2, none⟩ (.int .i64 X)).setCell ⟨w.heap.size, 3, none⟩ (.int .i64 Y)).setCell ⟨w.heap.size, 4, none⟩ (.int .i64 r3)) (some w.heap.size) := (gb_trans (gb_trans (gb_trans (gb_trans (gb_set _ _ _ _) (gb_set _ _ _ _)) (gb_set _ _ _ _)) (gb_set _ _ _ _)) (gb_set _ _ _ _))
      have P1 := Lib.hid (HC0.out.awayB (HC0.out.awayB HC7.out hs0 HQ1.out) hs HQ.out)
      have P2 := Lib.hid (gb_ownB (gb_ownB HGW.out hs0 HQ1.out) hs HQ.out)
      exact bodyPost_ret (v := .agg #[.int .i64 x', .int .i64 y', .int .i64 X, .int .i64 Y, .int .i64 r3]) (by simp [results, Try.results101, go_sem, *]) rfl ⟨x', y', X, Y, r3, rfl, by omega, P1.out.more (by omega), P2.out⟩
    by_cases q2 : r6 = 2
    · subst q2
      go_wp2_with fail
      refine (anySpotC_any b n cp (k + 30 + 2) a (by omega) HC6.out).mono ?_
      rintro e w7 ⟨x', y', rfl, hc7, gw⟩
      have RM7 := row_gb RM6.out gw hgm
      have RZ7 := row_gb RZ6.out gw (by omega)
      have HGW := Lib.hid (gb_trans GW6.out gw)
      have HC7 := Lib.hid hc7
      clear gw hc7
      obtain ⟨m0, m1, m2, m3, m4, mf0, mf1, mf2, mf3, mf4⟩ := mF_cells RM7
      obtain ⟨z0, z1, z2, z3, z4, zf0, zf1, zf2, zf3, zf4⟩ := mF_cells RZ7
      clear RM7 RZ7
      go_wp2
      have hs0 : w7.grownBy ((w7.setCell ⟨gm, 2, none⟩ (.int .i64 x')).setCell ⟨gm, 3, none⟩ (.int .i64 y')) (some gm) := (gb_trans (gb_set _ _ _ _) (gb_set _ _ _ _))
      have hs : ((w7.setCell ⟨gm, 2, none⟩ (.int .i64 x')).setCell ⟨gm, 3, none⟩ (.int .i64 y')).grownBy (((((((w7.setCell ⟨gm, 2, none⟩ (.int .i64 x')).setCell ⟨gm, 3, none⟩ (.int .i64 y')).setCell ⟨w.heap.size, 0, none⟩ (.int .i64 x)).setCell ⟨w.heap.size, 1, none⟩ (.int .i64 y)).setCell ⟨w.heap.size, 2, none⟩ (.int .i64 x')).setCell ⟨w.heap.size, 3, none⟩ (.int .i64 y')).setCell ⟨w.heap.size, 4, none⟩ (.int .i64 r3)) (some w.heap.size) := (gb_trans (gb_trans (gb_trans (gb_trans (gb_set _ _ _ _) (gb_set _ _ _ _)) (gb_set _ _ _ _)) (gb_set _ _ _ _)) (gb_set _ _ _ _))
      have P1 := Lib.hid (HC0.out.awayB (HC0.out.awayB HC7.out hs0 HQ1.out) hs HQ.out)
      have P2 := Lib.hid (gb_ownB (gb_ownB HGW.out hs0 HQ1.out) hs HQ.out)
      exact bodyPost_ret (v := .agg #[.int .i64 x, .int .i64 y, .int .i64 x', .int .i64 y', .int .i64 r3]) (by simp [results, Try.results101, go_sem, *]) rfl ⟨x, y, x', y', r3, rfl, by omega, P1.out.more (by omega), P2.out⟩
    · have e0 : (r6 == 0) = false := by simpa using q0
      have e1 : (r6 == 1) = false := by simpa using q1
      have e2 : (r6 == 2) = false := by simpa using q2
      have RM7 := RM6.out
      have RZ7 := RZ6.out
      have HGW := GW6
      have HC7 := HC6
      obtain ⟨m0, m1, m2, m3, m4, mf0, mf1, mf2, mf3, mf4⟩ := mF_cells RM7
      obtain ⟨z0, z1, z2, z3, z4, zf0, zf1, zf2, zf3, zf4⟩ := mF_cells RZ7
      clear RM7 RZ7
      go_wp2
      have hs : w6.grownBy (((((w6.setCell ⟨w.heap.size, 0, none⟩ (.int .i64 x)).setCell ⟨w.heap.size, 1, none⟩ (.int .i64 y)).setCell ⟨w.heap.size, 2, none⟩ (.int .i64 X)).setCell ⟨w.heap.size, 3, none⟩ (.int .i64 Y)).setCell ⟨w.heap.size, 4, none⟩ (.int .i64 r3)) (some w.heap.size) := (gb_trans (gb_trans (gb_trans (gb_trans (gb_set _ _ _ _) (gb_set _ _ _ _)) (gb_set _ _ _ _)) (gb_set _ _ _ _)) (gb_set _ _ _ _))
      have P1 := Lib.hid (HC0.out.awayB HC7.out hs HQ.out)
      have P2 := Lib.hid (gb_ownB HGW.out hs HQ.out)
      exact bodyPost_ret (v := .agg #[.int .i64 x, .int .i64 y, .int .i64 X, .int .i64 Y, .int .i64 r3]) (by simp [results, Try.results101, go_sem, *]) rfl ⟨x, y, X, Y, r3, rfl, by omega, P1.out.more (by omega), P2.out⟩

end Go.Proofs.Ytjojjmmdgldcbaa
