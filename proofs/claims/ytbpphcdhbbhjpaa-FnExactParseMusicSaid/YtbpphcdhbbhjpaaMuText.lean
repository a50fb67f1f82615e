/- The text of music, as the other side writes it. No conditions but those written in each theorem. -/
import Derived.Test.YtbpphcdhbbhjpaaMuSpec
import Derived.Test.YtbpphcdhbbhjpaaL1Num
import Derived.Deep.RegionHeld3
import Derived.Deep.DrawnRows
import Derived.IntWalk
namespace Go.Proofs.Ytbpphcdhbbhjpaa
open Go.RowKit


attribute [local go_sem ↓] Go.wp_at_zero Go.wp_at_succ

/-- The text of one measure. -/
def mtxt (c t : Int) : List UInt8 := decL c.toNat ++ 64 :: decL t.toNat
theorem mtxt_size {c t : Int} (hc : c ≤ 1000000) (ht : t ≤ 1000000) : (mtxt c t).length ≤ 61 := by
  have h1 := decL_size c.toNat (by omega)
  have h2 := decL_size t.toNat (by omega)
  unfold mtxt
  simp
  omega
/-- The text of the first k measures. -/
def mutx (l : List (Int × Int)) : Nat → List UInt8
  | 0 => []
  | k + 1 => (if k = 0 then [] else mutx l k ++ [32]) ++ mtxt (sx l k) (sy l k)
theorem mutx_zero (l : List (Int × Int)) : mutx l 1 = mtxt (sx l 0) (sy l 0) := by
  show (if (0 : Nat) = 0 then ([] : List UInt8) else mutx l 0 ++ [32]) ++ mtxt (sx l 0) (sy l 0) = _
  rw [if_pos rfl]
  rfl
theorem mutx_more (l : List (Int × Int)) {k : Nat} (h : 0 < k) : mutx l (k + 1) = mutx l k ++ 32 :: mtxt (sx l k) (sy l k) := by
  show (if k = 0 then ([] : List UInt8) else mutx l k ++ [32]) ++ mtxt (sx l k) (sy l k) = _
  rw [if_neg (by omega)]
  simp
theorem mutx_size {l : List (Int × Int)} (h : ∀ j, j < l.length → sx l j ≤ 1000000 ∧ sy l j ≤ 1000000) : ∀ k, k ≤ l.length → (mutx l k).length ≤ 62 * k
  | 0, _ => by simp [mutx]
  | k + 1, hk => by
    have h1 := mutx_size h k (by omega)
    have h2 := h k (by omega)
    have h3 := mtxt_size h2.1 h2.2
    by_cases e : k = 0
    · subst e
      rw [mutx_zero]
      omega
    · rw [mutx_more l (by omega)]
      simp
      omega
/-- The text of music. -/
def muT (l : List (Int × Int)) : ByteArray := bs (mutx l l.length)
theorem bs_cons (l m : List UInt8) (c : UInt8) : bs l ++ ⟨#[c]⟩ ++ bs m = bs (l ++ c :: m) := by
  rw [show (⟨#[c]⟩ : ByteArray) = bs [c] from rfl, bs_app, bs_app]
  simp
theorem bs_empty : (⟨#[]⟩ : ByteArray) = bs [] := rfl
theorem bs_one (c : UInt8) : (⟨#[c]⟩ : ByteArray) = bs [c] := rfl
theorem cat_runE {P : Program} {l m r : List UInt8} (e : l ++ m = r) (h : l.length + m.length ≤ 1000000000) (W : World) : (Op.stringOp .add (bs l) (bs m)).run P W = .ok (.string (bs r)) W := by rw [← e]; exact cat_run l m h W
theorem cat_oneE {P : Program} {l r : List UInt8} {c : UInt8} (e : l ++ [c] = r) (h : l.length ≤ 100000000) (W : World) : (Op.stringOp .add (bs l) ⟨#[c]⟩).run P W = .ok (.string (bs r)) W := by rw [← e]; exact cat_one l c h W
theorem bs_mk (s : ByteArray) : (bs s.data.toList) = s := rfl

set_option maxHeartbeats 2000000 in
theorem muText_any (a : Option Addr) (cap : Nat) (l : List (Int × Int)) (hm : musOk l = true) {w : World} (ha : PairsAt w a l) :
    Calls Try.prog 65 #[.slice a l.length cap] w fun e w' => e = .returned (.string (muT l)) ∧ Below w.heap.size w w' := by
  obtain ⟨n1, n2⟩ := musOk_len hm
  have hat := fun j hj => musOk_at hm j hj
  have Hat := Lib.hid hat
  clear hat
  go_enter Try.func65, Try.ntmps65
  go_wp2
  go_loopw [3, 8] (fun s i wr => ∃ k : Nat, k ≤ l.length ∧ i = .int .i64 k ∧ s = .string (bs (mutx l k)) ∧ Below w.heap.size w wr) (fun _ i _ => l.length - (intOf i).toNat)
  case atStart => exact ⟨0, Nat.zero_le _, rfl, rfl, Below.refl _ _⟩
  case round =>
    obtain ⟨k, hk, rfl, rfl, hbr⟩ := hrel
    have hsr := hbr.size
    by_cases hlt : k < l.length
    · obtain ⟨b, off, rfl, c0, c1⟩ := (ha.below hbr) k hlt
      obtain ⟨⟨b3, b4⟩, b5, b6⟩ := Hat.out k hlt
      obtain ⟨c, hc⟩ : ∃ c, c = sx l k := ⟨_, rfl⟩
      obtain ⟨t, ht⟩ : ∃ t, t = sy l k := ⟨_, rfl⟩
      have g1 := decL_size c.toNat (by omega)
      have g2 := decL_size t.toNat (by omega)
      have g3 := mutx_size (l := l) (fun j hj => by have := Hat.out j hj; omega) k hk
      obtain ⟨dc, hdc⟩ : ∃ d, d = decL c.toNat := ⟨_, rfl⟩
      obtain ⟨dt, hdt⟩ : ∃ d, d = decL t.toNat := ⟨_, rfl⟩
      obtain ⟨s, hs⟩ : ∃ s, s = mutx l k := ⟨_, rfl⟩
      obtain ⟨m1, hm1⟩ : ∃ m, dc ++ [64] = m := ⟨_, rfl⟩
      obtain ⟨m2, hm2⟩ : ∃ m, m1 ++ dt = m := ⟨_, rfl⟩
      have k1 : m1.length ≤ 31 := by rw [← hm1, hdc]; simp; omega
      have k2 : m2.length ≤ 61 := by rw [← hm2, List.length_append, hdt]; omega
      have hr1 := cat_oneE (P := Try.prog) hm1 (by rw [hdc]; omega)
      have hr2 := cat_runE (P := Try.prog) hm2 (by rw [hdt]; omega)
      have hmt : m2 = mtxt (sx l k) (sy l k) := by rw [← hm2, ← hm1, hdc, hdt, hc, ht]; unfold mtxt; simp
      have NC := Lib.hid (fun W => l1Num_any c (by omega) (by omega) W)
      have NT := Lib.hid (fun W => l1Num_any t (by omega) (by omega) W)
      simp only [decT_list, ← hdc, ← hdt] at NC NT
      rw [← hc] at c0 b3 b4
      rw [← ht] at c1 b5 b6
      by_cases hk0 : k = 0
      · subst hk0
        have hnew : mutx l 1 = m2 := by rw [mutx_zero, hmt]
        have HN := Lib.hid hnew
        have e0 : s = [] := hs
        rw [← hs, e0]
        have hr3 := cat_runE (P := Try.prog) (List.nil_append m2) (by simp; omega)
        simp only [Nat.zero_mul, Nat.add_zero] at c0 c1
        clear hc ht hnew hdc hdt hs g1 g2 g3 hm1 hm2 hmt e0
        go_wp2
        go_region_held3 (fun w' => w'.cell? ⟨wr.heap.size, 0, none⟩ = some (.int .i64 c) ∧ w'.cell? ⟨wr.heap.size, 1, none⟩ = some (.int .i64 t) ∧ wr.heap.size < w'.heap.size) (refine ⟨?_, ?_, ?_⟩ <;> first | (go_keep; done) | (simp [*, World.cell?_alloc_past, World.cell?_setCell_far]; done) | (simp [*, World.cell?_alloc_past, World.cell?_alloc_at, World.cell?_setCell_far]; done) | (go_simp; done))
          (first | (go_at_call 70; ((with_reducible refine (NC.out _).mono ?_); rintro e w1 ⟨rfl, hb1⟩; have hs1 := hb1.size; have m0 : w1.cell? ⟨wr.heap.size, 0, none⟩ = _ := hb1.cell (p := ⟨wr.heap.size, 0, none⟩) (by first | omega | (simp; done) | (simp; omega)); have m1 : w1.cell? ⟨wr.heap.size, 1, none⟩ = _ := hb1.cell (p := ⟨wr.heap.size, 1, none⟩) (by first | omega | (simp; done) | (simp; omega)); have m2 : wr.heap.size < w1.heap.size := (by have hq := hb1.size; (try simp at hq); omega))) | (go_at_call 70; ((with_reducible refine (NT.out _).mono ?_); rintro e w1 ⟨rfl, hb1⟩; have hs1 := hb1.size; have m0 : w1.cell? ⟨wr.heap.size, 0, none⟩ = _ := hb1.cell (p := ⟨wr.heap.size, 0, none⟩) (by first | omega | (simp; done) | (simp; omega)); have m1 : w1.cell? ⟨wr.heap.size, 1, none⟩ = _ := hb1.cell (p := ⟨wr.heap.size, 1, none⟩) (by first | omega | (simp; done) | (simp; omega)); have m2 : wr.heap.size < w1.heap.size := (by have hq := hb1.size; (try simp at hq); omega))))
        all_goals
          go_wp2
          go_roundw
          case rel => exact ⟨1, by omega, by go_num, by rw [HN.out], (by repeat (first | exact Below.refl _ _ | assumption | refine Below.drew ?_ | refine below_drewN ?_ _ | refine Below.alloc ?_ (by first | omega | (simp; done) | (simp; omega)) _ | refine Below.setCell ?_ (by first | omega | (simp; done) | (simp; omega)) _ | refine Below.trans ?_ (Below.mono (by assumption) (by first | omega | (simp; done) | (simp; omega)))))⟩
          case measure => simp [intOf]; omega
      · obtain ⟨m3, hm3⟩ : ∃ m, s ++ [32] = m := ⟨_, rfl⟩
        obtain ⟨m4, hm4⟩ : ∃ m, m3 ++ m2 = m := ⟨_, rfl⟩
        have hnew : mutx l (k + 1) = m4 := by rw [mutx_more l (by omega), ← hm4, ← hm3, hmt, hs]; simp
        have HN := Lib.hid hnew
        have g4 : s.length ≤ 62 * k := by rw [hs]; exact g3
        have k3 : m3.length ≤ 62 * k + 1 := by rw [← hm3]; simp; omega
        have hr3 := cat_oneE (P := Try.prog) hm3 (by omega)
        have hr4 := cat_runE (P := Try.prog) hm4 (by omega)
        have kp : (0 : Int) < (k : Int) := by omega
        rw [← hs]
        clear hc ht hnew hdc hdt hs g1 g2 g3 hm1 hm2 hm3 hm4 hmt
        go_wp2
        go_region_held3 (fun w' => w'.cell? ⟨wr.heap.size, 0, none⟩ = some (.int .i64 c) ∧ w'.cell? ⟨wr.heap.size, 1, none⟩ = some (.int .i64 t) ∧ wr.heap.size < w'.heap.size) (refine ⟨?_, ?_, ?_⟩ <;> first | (go_keep; done) | (simp [*, World.cell?_alloc_past, World.cell?_setCell_far]; done) | (simp [*, World.cell?_alloc_past, World.cell?_alloc_at, World.cell?_setCell_far]; done) | (go_simp; done))
          (first | (go_at_call 70; ((with_reducible refine (NC.out _).mono ?_); rintro e w1 ⟨rfl, hb1⟩; have hs1 := hb1.size; have m0 : w1.cell? ⟨wr.heap.size, 0, none⟩ = _ := hb1.cell (p := ⟨wr.heap.size, 0, none⟩) (by first | omega | (simp; done) | (simp; omega)); have m1 : w1.cell? ⟨wr.heap.size, 1, none⟩ = _ := hb1.cell (p := ⟨wr.heap.size, 1, none⟩) (by first | omega | (simp; done) | (simp; omega)); have m2 : wr.heap.size < w1.heap.size := (by have hq := hb1.size; (try simp at hq); omega))) | (go_at_call 70; ((with_reducible refine (NT.out _).mono ?_); rintro e w1 ⟨rfl, hb1⟩; have hs1 := hb1.size; have m0 : w1.cell? ⟨wr.heap.size, 0, none⟩ = _ := hb1.cell (p := ⟨wr.heap.size, 0, none⟩) (by first | omega | (simp; done) | (simp; omega)); have m1 : w1.cell? ⟨wr.heap.size, 1, none⟩ = _ := hb1.cell (p := ⟨wr.heap.size, 1, none⟩) (by first | omega | (simp; done) | (simp; omega)); have m2 : wr.heap.size < w1.heap.size := (by have hq := hb1.size; (try simp at hq); omega))))
        all_goals
          go_wp2
          go_roundw
          case rel => exact ⟨k + 1, by omega, by go_num, by rw [HN.out], (by repeat (first | exact Below.refl _ _ | assumption | refine Below.drew ?_ | refine below_drewN ?_ _ | refine Below.alloc ?_ (by first | omega | (simp; done) | (simp; omega)) _ | refine Below.setCell ?_ (by first | omega | (simp; done) | (simp; omega)) _ | refine Below.trans ?_ (Below.mono (by assumption) (by first | omega | (simp; done) | (simp; omega)))))⟩
          case measure => simp [intOf]; omega
    · obtain rfl : k = l.length := by omega
      go_wp2
      go_ret
      exact ⟨rfl, (by repeat (first | exact Below.refl _ _ | assumption | refine Below.drew ?_ | refine below_drewN ?_ _ | refine Below.alloc ?_ (by first | omega | (simp; done) | (simp; omega)) _ | refine Below.setCell ?_ (by first | omega | (simp; done) | (simp; omega)) _ | refine Below.trans ?_ (Below.mono (by assumption) (by first | omega | (simp; done) | (simp; omega)))))⟩

end Go.Proofs.Ytbpphcdhbbhjpaa
