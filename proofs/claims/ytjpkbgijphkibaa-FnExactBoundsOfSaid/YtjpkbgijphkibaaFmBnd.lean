/- The bounds of a form, both sides. No conditions but those written in each theorem. -/
import Derived.Test.YtjpkbgijphkibaaFmMid
import Derived.Deep.RegionHeld3
import Derived.Deep.DrawnRows
import Derived.IntWalk
import Derived.Laws.AppendOwn
import Derived.Deep.AppendLies
import Derived.Deep.RegionWith
import Derived.Deep.DeepCutAuto
import Derived.StillTailTactics
namespace Go.Proofs.Ytjpkbgijphkibaa
open Go.RowKit


attribute [local go_sem ↓] Go.wp_at_zero Go.wp_at_succ

/-- The least and the greatest numbers of the first spot and k spots. -/
def loR (g : Nat → Int) : Nat → Int
  | 0 => g 0
  | k + 1 => lo2 (loR g k) (g k)
def hiR (g : Nat → Int) : Nat → Int
  | 0 => g 0
  | k + 1 => hi2 (hiR g k) (g k)
/-- A box of two numbers. -/
structure Box2 (w : World) (b : Nat) (x y : Int) : Prop where
  c0 : w.cell? ⟨b, 0, none⟩ = some (.int .i64 x)
  c1 : w.cell? ⟨b, 1, none⟩ = some (.int .i64 y)
  f0 : w.frozen? ⟨b, 0, none⟩ = false
  f1 : w.frozen? ⟨b, 1, none⟩ = false
theorem Box2.lt {w : World} {b : Nat} {x y : Int} (h : Box2 w b x y) : b < w.heap.size := World.block_lt_of_cell? _ _ h.c0
theorem Box2.go {w w1 : World} {b : Nat} {x y : Int} (h : Box2 w b x y) (hb : Below w.heap.size w w1) : Box2 w1 b x y :=
  have hl := h.lt
  ⟨(hb.cell (p := ⟨b, 0, none⟩) hl).trans h.c0, (hb.cell (p := ⟨b, 1, none⟩) hl).trans h.c1, (hb.frozen (p := ⟨b, 0, none⟩) hl).trans h.f0, (hb.frozen (p := ⟨b, 1, none⟩) hl).trans h.f1⟩
theorem Box2.alloc {w : World} {b : Nat} {x y : Int} (h : Box2 w b x y) (o : Obj) : Box2 (w.alloc o) b x y := h.go ((Below.refl _ _).alloc (Nat.le_refl _) _)
theorem Box2.drew {w : World} {b : Nat} {x y : Int} (h : Box2 w b x y) : Box2 w.drew b x y := h.go ((Below.refl _ _).drew)
theorem Box2.set {w : World} {b : Nat} {x y : Int} (h : Box2 w b x y) (x' y' : Int) : Box2 ((w.setCell ⟨b, 0, none⟩ (.int .i64 x')).setCell ⟨b, 1, none⟩ (.int .i64 y')) b x' y' :=
  ⟨(World.cell?_setCell_other _ _ _ _ (by simp)).trans (World.cell?_setCell_same w _ _ h.c0), World.cell?_setCell_same _ _ _ ((World.cell?_setCell_other _ _ _ _ (by simp)).trans h.c1), (by rw [World.frozen?_setCell, World.frozen?_setCell]; exact h.f0), (by rw [World.frozen?_setCell, World.frozen?_setCell]; exact h.f1)⟩
theorem Box2.far {w : World} {b c : Nat} {x y : Int} (h : Box2 w b x y) (hne : b ≠ c) (u v : Value) : Box2 ((w.setCell ⟨c, 0, none⟩ u).setCell ⟨c, 1, none⟩ v) b x y :=
  ⟨(World.cell?_setCell_other _ _ _ _ (by simp [hne])).trans ((World.cell?_setCell_other _ _ _ _ (by simp [hne])).trans h.c0), (World.cell?_setCell_other _ _ _ _ (by simp [hne])).trans ((World.cell?_setCell_other _ _ _ _ (by simp [hne])).trans h.c1), (by rw [World.frozen?_setCell, World.frozen?_setCell]; exact h.f0), (by rw [World.frozen?_setCell, World.frozen?_setCell]; exact h.f1)⟩
/-- Two boxes, in slots. -/
def TwoBox (k : Nat) (w : World) (pa pb : Value) (x1 y1 x2 y2 : Int) : Prop :=
  ∃ A B : Nat, pa = .pointer (some ⟨A, 0, none⟩) ∧ pb = .pointer (some ⟨B, 0, none⟩) ∧ A ≠ B ∧ k ≤ A ∧ k ≤ B ∧ Box2 w A x1 y1 ∧ Box2 w B x2 y2
theorem min_fold : ∀ a b : Int, (if b < a then b else a) = lo2 a b := fun a b => by unfold lo2; split <;> split <;> omega
theorem max_fold : ∀ a b : Int, (if a < b then b else a) = hi2 a b := fun a b => by unfold hi2; split <;> split <;> omega

set_option maxHeartbeats 1000000 in
theorem specBnd_no (a : Option Addr) (cap : Nat) (l : List (Int × Int)) (hl : l.length ≤ 1048576) (hc : l.length ≤ cap) {w : World} (ha : PairsAt w a l) (hv : chOk l = false) :
    Calls Try.prog 33 #[.slice a l.length cap] w fun e w' => e = .returned (.tuple #[.agg #[.int .i64 0, .int .i64 0], .agg #[.int .i64 0, .int .i64 0], .bool false]) ∧ Below w.heap.size w w' := by
  have HS := Lib.hid (fun (W : World) (hb : Below w.heap.size w W) => chGood_any a cap l hl hc (ha.below hb))
  have HV := Lib.hid hv
  clear hv
  go_enter Try.func33, Try.ntmps33
  go_wp2_with (first | (go_at_call 52; (refine (HS.out _ (by repeat (first | exact Below.refl _ _ | assumption | refine Below.drew ?_ | refine below_drewN ?_ _ | refine Below.alloc ?_ (by first | omega | (simp; done) | (simp; omega)) _ | refine Below.setCell ?_ (by first | omega | (simp; done) | (simp; omega)) _ | refine Below.trans ?_ (Below.mono (by assumption) (by first | omega | (simp; done) | (simp; omega)))))).mono ?_; rw [HV.out]; rintro e w1 ⟨rfl, hb1⟩; have hs1 := hb1.size; (try simp at hs1); have d100 : w1.cell? ⟨w.heap.size, 0, none⟩ = some (.int .i64 0) := (hb1.cell (p := ⟨w.heap.size, 0, none⟩) (by first | omega | (simp; done) | (simp; omega))).trans (by go_simp); have e100 : w1.frozen? ⟨w.heap.size, 0, none⟩ = false := (hb1.frozen (p := ⟨w.heap.size, 0, none⟩) (by first | omega | (simp; done) | (simp; omega))).trans (by go_simp); have d101 : w1.cell? ⟨w.heap.size, 1, none⟩ = some (.int .i64 0) := (hb1.cell (p := ⟨w.heap.size, 1, none⟩) (by first | omega | (simp; done) | (simp; omega))).trans (by go_simp); have e101 : w1.frozen? ⟨w.heap.size, 1, none⟩ = false := (hb1.frozen (p := ⟨w.heap.size, 1, none⟩) (by first | omega | (simp; done) | (simp; omega))).trans (by go_simp); have d110 : w1.cell? ⟨w.heap.size + 1, 0, none⟩ = some (.int .i64 0) := (hb1.cell (p := ⟨w.heap.size + 1, 0, none⟩) (by first | omega | (simp; done) | (simp; omega))).trans (by go_simp); have e110 : w1.frozen? ⟨w.heap.size + 1, 0, none⟩ = false := (hb1.frozen (p := ⟨w.heap.size + 1, 0, none⟩) (by first | omega | (simp; done) | (simp; omega))).trans (by go_simp); have d111 : w1.cell? ⟨w.heap.size + 1, 1, none⟩ = some (.int .i64 0) := (hb1.cell (p := ⟨w.heap.size + 1, 1, none⟩) (by first | omega | (simp; done) | (simp; omega))).trans (by go_simp); have e111 : w1.frozen? ⟨w.heap.size + 1, 1, none⟩ = false := (hb1.frozen (p := ⟨w.heap.size + 1, 1, none⟩) (by first | omega | (simp; done) | (simp; omega))).trans (by go_simp); have hz1 : w.heap.size + 1 < w1.heap.size := (by first | omega | (simp; done) | (simp; omega)))))
  exact bodyPost_ret (v := .tuple #[.agg #[.int .i64 0, .int .i64 0], .agg #[.int .i64 0, .int .i64 0], .bool false]) (by simp [results, Try.results33, go_sem, *]) rfl ⟨rfl, (by repeat (first | exact Below.refl _ _ | assumption | refine Below.drew ?_ | refine below_drewN ?_ _ | refine Below.alloc ?_ (by first | omega | (simp; done) | (simp; omega)) _ | refine Below.setCell ?_ (by first | omega | (simp; done) | (simp; omega)) _ | refine Below.trans ?_ (Below.mono (by assumption) (by first | omega | (simp; done) | (simp; omega)))))⟩

set_option maxHeartbeats 1000000 in
theorem bnd_no (a : Option Addr) (cap : Nat) (l : List (Int × Int)) (hl : l.length ≤ 1048576) {w : World} (ha : PairsAt w a l) (hv : chOk l = false) :
    Calls Try.prog 34 #[.slice a l.length cap] w fun e w' => e = .returned (.tuple #[.agg #[.int .i64 0, .int .i64 0], .agg #[.int .i64 0, .int .i64 0], .bool false]) ∧ Below w.heap.size w w' := by
  have HS := Lib.hid (fun (W : World) (hb : Below w.heap.size w W) => isChart_any a cap l hl (ha.below hb))
  have HV := Lib.hid hv
  clear hv
  go_enter Try.func34, Try.ntmps34
  go_wp2_with (first | (go_at_call 54; (refine (HS.out _ (by repeat (first | exact Below.refl _ _ | assumption | refine Below.drew ?_ | refine below_drewN ?_ _ | refine Below.alloc ?_ (by first | omega | (simp; done) | (simp; omega)) _ | refine Below.setCell ?_ (by first | omega | (simp; done) | (simp; omega)) _ | refine Below.trans ?_ (Below.mono (by assumption) (by first | omega | (simp; done) | (simp; omega)))))).mono ?_; rw [HV.out]; rintro e w1 ⟨rfl, hb1⟩; have hs1 := hb1.size; (try simp at hs1); have d100 : w1.cell? ⟨w.heap.size, 0, none⟩ = some (.int .i64 0) := (hb1.cell (p := ⟨w.heap.size, 0, none⟩) (by first | omega | (simp; done) | (simp; omega))).trans (by go_simp); have e100 : w1.frozen? ⟨w.heap.size, 0, none⟩ = false := (hb1.frozen (p := ⟨w.heap.size, 0, none⟩) (by first | omega | (simp; done) | (simp; omega))).trans (by go_simp); have d101 : w1.cell? ⟨w.heap.size, 1, none⟩ = some (.int .i64 0) := (hb1.cell (p := ⟨w.heap.size, 1, none⟩) (by first | omega | (simp; done) | (simp; omega))).trans (by go_simp); have e101 : w1.frozen? ⟨w.heap.size, 1, none⟩ = false := (hb1.frozen (p := ⟨w.heap.size, 1, none⟩) (by first | omega | (simp; done) | (simp; omega))).trans (by go_simp); have d110 : w1.cell? ⟨w.heap.size + 1, 0, none⟩ = some (.int .i64 0) := (hb1.cell (p := ⟨w.heap.size + 1, 0, none⟩) (by first | omega | (simp; done) | (simp; omega))).trans (by go_simp); have e110 : w1.frozen? ⟨w.heap.size + 1, 0, none⟩ = false := (hb1.frozen (p := ⟨w.heap.size + 1, 0, none⟩) (by first | omega | (simp; done) | (simp; omega))).trans (by go_simp); have d111 : w1.cell? ⟨w.heap.size + 1, 1, none⟩ = some (.int .i64 0) := (hb1.cell (p := ⟨w.heap.size + 1, 1, none⟩) (by first | omega | (simp; done) | (simp; omega))).trans (by go_simp); have e111 : w1.frozen? ⟨w.heap.size + 1, 1, none⟩ = false := (hb1.frozen (p := ⟨w.heap.size + 1, 1, none⟩) (by first | omega | (simp; done) | (simp; omega))).trans (by go_simp); have hz1 : w.heap.size + 1 < w1.heap.size := (by first | omega | (simp; done) | (simp; omega)))))
  exact bodyPost_ret (v := .tuple #[.agg #[.int .i64 0, .int .i64 0], .agg #[.int .i64 0, .int .i64 0], .bool false]) (by simp [results, Try.results34, go_sem, *]) rfl ⟨rfl, (by repeat (first | exact Below.refl _ _ | assumption | refine Below.drew ?_ | refine below_drewN ?_ _ | refine Below.alloc ?_ (by first | omega | (simp; done) | (simp; omega)) _ | refine Below.setCell ?_ (by first | omega | (simp; done) | (simp; omega)) _ | refine Below.trans ?_ (Below.mono (by assumption) (by first | omega | (simp; done) | (simp; omega)))))⟩

set_option maxHeartbeats 2000000 in
theorem bnd_yes (b off cap : Nat) (l : List (Int × Int)) (hl : l.length ≤ 1048576) {w : World} (ha : PairsAt w (some ⟨b, off, none⟩) l) (hv : chOk l = true) :
    Calls Try.prog 34 #[.slice (some ⟨b, off, none⟩) l.length cap] w fun e w' => e = .returned (.tuple #[.agg #[.int .i64 (loR (sx l) l.length), .int .i64 (loR (sy l) l.length)], .agg #[.int .i64 (hiR (sx l) l.length), .int .i64 (hiR (sy l) l.length)], .bool true]) ∧ Below w.heap.size w w' := by
  have HS := Lib.hid (fun (W : World) (hb : Below w.heap.size w W) => isChart_any (some ⟨b, off, none⟩) cap l hl (ha.below hb))
  obtain ⟨p1, p2, p3, p4⟩ := chOk_parts hv
  have HV := Lib.hid hv
  have HA := Lib.hid ha
  clear hv p1 p2 ha
  have u1 : (0 : Int) < (l.length : Int) := by omega
  have u2 : 0 < l.length := by omega
  go_enter Try.func34, Try.ntmps34
  go_wp2_with (first | (go_at_call 54; (refine (HS.out _ (by repeat (first | exact Below.refl _ _ | assumption | refine Below.drew ?_ | refine below_drewN ?_ _ | refine Below.alloc ?_ (by first | omega | (simp; done) | (simp; omega)) _ | refine Below.setCell ?_ (by first | omega | (simp; done) | (simp; omega)) _ | refine Below.trans ?_ (Below.mono (by assumption) (by first | omega | (simp; done) | (simp; omega)))))).mono ?_; rw [HV.out]; rintro e w1 ⟨rfl, hb1⟩; have hs1 := hb1.size; (try simp at hs1); have d100 : w1.cell? ⟨w.heap.size, 0, none⟩ = some (.int .i64 0) := (hb1.cell (p := ⟨w.heap.size, 0, none⟩) (by first | omega | (simp; done) | (simp; omega))).trans (by go_simp); have e100 : w1.frozen? ⟨w.heap.size, 0, none⟩ = false := (hb1.frozen (p := ⟨w.heap.size, 0, none⟩) (by first | omega | (simp; done) | (simp; omega))).trans (by go_simp); have d101 : w1.cell? ⟨w.heap.size, 1, none⟩ = some (.int .i64 0) := (hb1.cell (p := ⟨w.heap.size, 1, none⟩) (by first | omega | (simp; done) | (simp; omega))).trans (by go_simp); have e101 : w1.frozen? ⟨w.heap.size, 1, none⟩ = false := (hb1.frozen (p := ⟨w.heap.size, 1, none⟩) (by first | omega | (simp; done) | (simp; omega))).trans (by go_simp); have d110 : w1.cell? ⟨w.heap.size + 1, 0, none⟩ = some (.int .i64 0) := (hb1.cell (p := ⟨w.heap.size + 1, 0, none⟩) (by first | omega | (simp; done) | (simp; omega))).trans (by go_simp); have e110 : w1.frozen? ⟨w.heap.size + 1, 0, none⟩ = false := (hb1.frozen (p := ⟨w.heap.size + 1, 0, none⟩) (by first | omega | (simp; done) | (simp; omega))).trans (by go_simp); have d111 : w1.cell? ⟨w.heap.size + 1, 1, none⟩ = some (.int .i64 0) := (hb1.cell (p := ⟨w.heap.size + 1, 1, none⟩) (by first | omega | (simp; done) | (simp; omega))).trans (by go_simp); have e111 : w1.frozen? ⟨w.heap.size + 1, 1, none⟩ = false := (hb1.frozen (p := ⟨w.heap.size + 1, 1, none⟩) (by first | omega | (simp; done) | (simp; omega))).trans (by go_simp); have hz1 : w.heap.size + 1 < w1.heap.size := (by first | omega | (simp; done) | (simp; omega)))))
  have hbw : Below w.heap.size w w1 := (by repeat (first | exact Below.refl _ _ | assumption | refine Below.drew ?_ | refine below_drewN ?_ _ | refine Below.alloc ?_ (by first | omega | (simp; done) | (simp; omega)) _ | refine Below.setCell ?_ (by first | omega | (simp; done) | (simp; omega)) _ | refine Below.trans ?_ (Below.mono (by assumption) (by first | omega | (simp; done) | (simp; omega)))))
  clear hb1
  obtain ⟨b1, off1, hbb, c0, c1⟩ := (HA.out.below hbw) 0 u2
  simp only [Option.some.injEq, Addr.mk.injEq] at hbb
  obtain ⟨hx1, hx2, _⟩ := hbb
  subst hx1 hx2
  rw [Nat.zero_mul, Nat.add_zero] at c0 c1
  have hbl : b < w1.heap.size := World.block_lt_of_cell? _ _ c0
  go_upto_region 3 with fail
  go_cut [5, 6] (fun pa pb wx => TwoBox w1.heap.size wx pa pb (sx l 0) (sy l 0) (sx l 0) (sy l 0) ∧ Below w1.heap.size w1 wx)
  case first =>
    go_region_with (fail)
    all_goals
      go_wp2_with fail
      go_meet
      exact ⟨⟨_, _, rfl, rfl, by omega, by omega, by omega, ⟨by go_simp, by go_simp, by go_simp, by go_simp⟩, ⟨by go_simp, by go_simp, by go_simp, by go_simp⟩⟩, (by repeat (first | exact Below.refl _ _ | assumption | refine Below.drew ?_ | refine below_drewN ?_ _ | refine Below.alloc ?_ (by first | omega | (simp; done) | (simp; omega)) _ | refine Below.setCell ?_ (by first | omega | (simp; done) | (simp; omega)) _ | refine Below.trans ?_ (Below.mono (by assumption) (by first | omega | (simp; done) | (simp; omega)))))⟩
  case rest =>
    obtain ⟨⟨A, B, rfl, rfl, hAB, hA, hB, bA, bB⟩, hbc⟩ := hcut
    have r0 : Box2 w1 w.heap.size 0 0 := ⟨d100, d101, e100, e101⟩
    have r1 : Box2 w1 (w.heap.size + 1) 0 0 := ⟨d110, d111, e110, e111⟩
    replace r0 := r0.go hbc
    replace r1 := r1.go hbc
    have hbw2 : Below w.heap.size w wc := Below.trans hbw (Below.mono hbc (by omega))
    clear d100 d101 d110 d111 e100 e101 e110 e111 c0 c1 hbc hbl hbw
    have v8 := min_fold
    have v9 := max_fold
    go_wp2
    go_loopw [22] (fun i wr => ∃ (k : Nat), k ≤ l.length ∧ i = .int .i64 k ∧ Box2 wr A (loR (sx l) k) (loR (sy l) k) ∧ Box2 wr B (hiR (sx l) k) (hiR (sy l) k) ∧ Box2 wr w.heap.size 0 0 ∧ Box2 wr (w.heap.size + 1) 0 0 ∧ Below w.heap.size w wr) (fun i _ => l.length - (intOf i).toNat)
    case atStart => exact ⟨0, Nat.zero_le _, rfl, bA, bB, r0, r1, hbw2⟩
    case round =>
      clear bA bB r0 r1 hbw2
      obtain ⟨k, hk, rfl, bA, bB, r0, r1, hbr⟩ := hrel
      have hsr := hbr.size
      by_cases hlt : k < l.length
      · obtain ⟨b1, off1, hbb, c0, c1⟩ := (HA.out.below hbr) k hlt
        simp only [Option.some.injEq, Addr.mk.injEq] at hbb
        obtain ⟨hx1, hx2, _⟩ := hbb
        subst hx1 hx2
        have HSX := Lib.hid (show loR (sx l) (k + 1) = lo2 (loR (sx l) k) (sx l k) from rfl)
        have HSY := Lib.hid (show loR (sy l) (k + 1) = lo2 (loR (sy l) k) (sy l k) from rfl)
        have HTX := Lib.hid (show hiR (sx l) (k + 1) = hi2 (hiR (sx l) k) (sx l k) from rfl)
        have HTY := Lib.hid (show hiR (sy l) (k + 1) = hi2 (hiR (sy l) k) (sy l k) from rfl)
        obtain ⟨p1, hp1⟩ : ∃ p, p = loR (sx l) k := ⟨_, rfl⟩
        obtain ⟨p2, hp2⟩ : ∃ p, p = loR (sy l) k := ⟨_, rfl⟩
        obtain ⟨p3', hp3⟩ : ∃ p, p = hiR (sx l) k := ⟨_, rfl⟩
        obtain ⟨p4', hp4⟩ : ∃ p, p = hiR (sy l) k := ⟨_, rfl⟩
        rw [← hp1] at HSX bA
        rw [← hp2] at HSY bA
        rw [← hp3] at HTX bB
        rw [← hp4] at HTY bB
        clear hp1 hp2 hp3 hp4
        obtain ⟨gA0, gA1, gA2, gA3⟩ := id bA
        obtain ⟨gB0, gB1, gB2, gB3⟩ := id bB
        have lA := bA.lt
        have lB := bB.lt
        have l0 := r0.lt
        have l1 := r1.lt
        have x1 : ¬ A = wr.heap.size := by omega
        have x2 : ¬ B = wr.heap.size := by omega
        have x3 : ¬ wr.heap.size = A := by omega
        have x4 : ¬ wr.heap.size = B := by omega
        have x5 : ¬ A = B := hAB
        have x6 : ¬ B = A := fun e => hAB e.symm
        have BA := Lib.hid bA
        have BB := Lib.hid bB
        have R0 := Lib.hid r0
        have R1 := Lib.hid r1
        clear bA bB r0 r1
        go_wp2
        go_roundw
        case rel => exact ⟨k + 1, by omega, by go_num, by rw [HSX.out, HSY.out]; exact ((BA.out.set _ _).far hAB _ _).alloc _, by rw [HTX.out, HTY.out]; exact ((BB.out.far x6 _ _).set _ _).alloc _, ((R0.out.far (by omega) _ _).far (by omega) _ _).alloc _, ((R1.out.far (by omega) _ _).far (by omega) _ _).alloc _, (by repeat (first | exact Below.refl _ _ | assumption | refine Below.drew ?_ | refine below_drewN ?_ _ | refine Below.alloc ?_ (by first | omega | (simp; done) | (simp; omega)) _ | refine Below.setCell ?_ (by first | omega | (simp; done) | (simp; omega)) _ | refine Below.trans ?_ (Below.mono (by assumption) (by first | omega | (simp; done) | (simp; omega)))))⟩
        case measure => simp [intOf]; omega
      · obtain rfl : k = l.length := by omega
        obtain ⟨gA0, gA1, gA2, gA3⟩ := bA
        obtain ⟨gB0, gB1, gB2, gB3⟩ := bB
        obtain ⟨g00, g01, g02, g03⟩ := r0
        obtain ⟨g10, g11, g12, g13⟩ := r1
        have x1 : ¬ A = w.heap.size := by omega
        have x2 : ¬ B = w.heap.size := by omega
        have x3 : ¬ A = w.heap.size + 1 := by omega
        have x4 : ¬ B = w.heap.size + 1 := by omega
        go_wp2
        go_region_with (fail)
        all_goals
          go_wp2
          exact bodyPost_ret (v := .tuple #[.agg #[.int .i64 (loR (sx l) l.length), .int .i64 (loR (sy l) l.length)], .agg #[.int .i64 (hiR (sx l) l.length), .int .i64 (hiR (sy l) l.length)], .bool true]) (by simp [results, Try.results34, go_sem, *]) rfl ⟨rfl, (by repeat (first | exact Below.refl _ _ | assumption | refine Below.drew ?_ | refine below_drewN ?_ _ | refine Below.alloc ?_ (by first | omega | (simp; done) | (simp; omega)) _ | refine Below.setCell ?_ (by first | omega | (simp; done) | (simp; omega)) _ | refine Below.trans ?_ (Below.mono (by assumption) (by first | omega | (simp; done) | (simp; omega)))))⟩

end Go.Proofs.Ytjpkbgijphkibaa
