/- The text of a chart, as the other side writes it. No conditions but those written in each theorem. -/
import Derived.Test.YtfimjfchdaioeaaDoorChGood
import Derived.Test.YtfimjfchdaioeaaDoorStTextS
import Derived.Test.YtfimjfchdaioeaaDoorNum
import Derived.Deep.RegionHeld3
import Derived.Deep.DrawnRows
import Derived.IntWalk
namespace Go.Proofs.YtfimjfchdaioeaaDoor
open Go.RowKit


attribute [local go_sem ↓] Go.wp_at_zero Go.wp_at_succ

/-- The text of a spot, as a list. -/
def sptL (x y : Int) : List UInt8 := (spotT x y).data.toList
theorem sptL_bs (x y : Int) : spotT x y = bs (sptL x y) := rfl
theorem sptL_size {x y : Int} (h : onField x y = true) : (sptL x y).length ≤ 123 := by
  obtain ⟨⟨a1, a2⟩, a3, a4⟩ := onField_iff.1 h
  have s1 := partT_size x a1 a2
  have s2 := partT_size y a3 (by omega)
  have e : (sptL x y).length = (spotT x y).size := rfl
  have s3 : (⟨#[44]⟩ : ByteArray).size = 1 := rfl
  rw [e]
  unfold spotT
  rw [ByteArray.size_append, ByteArray.size_append]
  omega
/-- The text of the first k spots, each in a line. -/
def chTx (l : List (Int × Int)) : Nat → List UInt8
  | 0 => []
  | k + 1 => chTx l k ++ (sptL (sx l k) (sy l k) ++ [10])
theorem chTx_size {l : List (Int × Int)} (h : ∀ j, j < l.length → onField (sx l j) (sy l j) = true) : ∀ k, k ≤ l.length → (chTx l k).length ≤ 124 * k
  | 0, _ => by simp [chTx]
  | k + 1, hk => by
    have h1 := chTx_size h k (by omega)
    have h2 := sptL_size (h k (by omega))
    unfold chTx
    rw [List.length_append, List.length_append]
    simp only [List.length_cons, List.length_nil]
    omega
/-- The text of a chart. -/
def chT (l : List (Int × Int)) : ByteArray := bs (chTx l l.length)
theorem ch_empty : (⟨#[]⟩ : ByteArray) = bs [] := rfl
theorem cat_runF {P : Program} {l m r : List UInt8} (e : l ++ m = r) (h : l.length + m.length ≤ 1000000000) (W : World) : (Op.stringOp .add (bs l) (bs m)).run P W = .ok (.string (bs r)) W := by rw [← e]; exact cat_run l m h W
theorem cat_oneF {P : Program} {l r : List UInt8} {c : UInt8} (e : l ++ [c] = r) (h : l.length ≤ 100000000) (W : World) : (Op.stringOp .add (bs l) ⟨#[c]⟩).run P W = .ok (.string (bs r)) W := by rw [← e]; exact cat_one l c h W

set_option maxHeartbeats 2000000 in
theorem chText_any (a : Option Addr) (cap : Nat) (l : List (Int × Int)) (hl : l.length ≤ 1048576) (hc : l.length ≤ cap) (hat : ∀ j, j < l.length → onField (sx l j) (sy l j) = true) {w : World} (ha : PairsAt w a l) :
    Calls Tryd.prog 10 #[.slice a l.length cap] w fun e w' => e = .returned (.string (chT l)) ∧ Below w.heap.size w w' := by
  have Hat := Lib.hid hat
  have HA := Lib.hid ha
  clear hat ha
  go_enter Tryd.func10, Tryd.ntmps10
  go_wp2
  go_loopw [3, 8] (fun s i wr => ∃ k : Nat, k ≤ l.length ∧ i = .int .i64 k ∧ s = .string (bs (chTx l k)) ∧ Below w.heap.size w wr) (fun _ i _ => l.length - (intOf i).toNat)
  case atStart => exact ⟨0, Nat.zero_le _, rfl, rfl, Below.refl _ _⟩
  case round =>
    obtain ⟨k, hk, rfl, rfl, hbr⟩ := hrel
    have hsr := hbr.size
    by_cases hlt : k < l.length
    · obtain ⟨b, off, rfl, c0, c1⟩ := (HA.out.below hbr) k hlt
      have ho := Hat.out k hlt
      have g1 := sptL_size ho
      have g3 := chTx_size (l := l) Hat.out k hk
      have NC := Lib.hid (fun W => stText_any (sx l k) (sy l k) ho W)
      obtain ⟨c, hcx⟩ : ∃ c, c = sx l k := ⟨_, rfl⟩
      obtain ⟨t, ht⟩ : ∃ t, t = sy l k := ⟨_, rfl⟩
      have hnew : chTx l (k + 1) = chTx l k ++ (sptL (sx l k) (sy l k) ++ [10]) := rfl
      rw [sptL_bs] at NC
      rw [← hcx] at c0 NC hnew g1
      rw [← ht] at c1 NC hnew g1
      obtain ⟨d, hd⟩ : ∃ d, d = sptL c t := ⟨_, rfl⟩
      obtain ⟨s, hs⟩ : ∃ s, s = chTx l k := ⟨_, rfl⟩
      rw [← hd] at NC hnew g1
      rw [← hs] at hnew g3 ⊢
      obtain ⟨m1, hm1⟩ : ∃ m, d ++ [10] = m := ⟨_, rfl⟩
      obtain ⟨m2, hm2⟩ : ∃ m, s ++ m1 = m := ⟨_, rfl⟩
      have k1 : m1.length ≤ 124 := by rw [← hm1]; simp; omega
      have hr1 := cat_oneF (P := Tryd.prog) hm1 (by omega)
      have hr2 := cat_runF (P := Tryd.prog) hm2 (by omega)
      rw [hm1, hm2] at hnew
      have HN := Lib.hid hnew
      clear hnew hcx ht ho hd hs hm1 hm2
      go_wp2_with (first | (go_at_call 19; ((with_reducible refine (NC.out _).mono ?_); rintro e w1 ⟨rfl, hb1⟩; have hs1 := hb1.size)))
      all_goals
        go_wp2
        go_roundw
        case rel => exact ⟨k + 1, by omega, by go_num, by rw [HN.out], (by repeat (first | exact Below.refl _ _ | assumption | refine Below.drew ?_ | refine below_drewN ?_ _ | refine Below.alloc ?_ (by first | omega | (simp; done) | (simp; omega)) _ | refine Below.setCell ?_ (by first | omega | (simp; done) | (simp; omega)) _ | refine Below.trans ?_ (Below.mono (by assumption) (by first | omega | (simp; done) | (simp; omega)))))⟩
        case measure => simp [intOf]; omega
    · obtain rfl : k = l.length := by omega
      go_wp2
      go_ret
      exact ⟨rfl, (by repeat (first | exact Below.refl _ _ | assumption | refine Below.drew ?_ | refine below_drewN ?_ _ | refine Below.alloc ?_ (by first | omega | (simp; done) | (simp; omega)) _ | refine Below.setCell ?_ (by first | omega | (simp; done) | (simp; omega)) _ | refine Below.trans ?_ (Below.mono (by assumption) (by first | omega | (simp; done) | (simp; omega)))))⟩

end Go.Proofs.YtfimjfchdaioeaaDoor
