/- Spots along ways, the program's side. Conditions: those written in each theorem. -/
import Derived.Test.YtppnomflmacpkaaFmWay
import Derived.Deep.RegionHeld3
import Derived.Deep.DrawnRows
import Derived.IntWalk
import Derived.Laws.AppendOwn
import Derived.Deep.AppendLies
import Derived.Laws.OwnMore
namespace Go.Proofs.Ytppnomflmacpkaa
open Go.RowKit


attribute [local go_sem ↓] Go.wp_at_zero Go.wp_at_succ

/-- The built-in least. -/
def mn (a b : Int) : Int := if b < a then b else a
theorem mn_fold : ∀ a b : Int, (if b < a then b else a) = mn a b := fun _ _ => rfl
theorem mn_seg {l : List (Int × Int)} {n k : Nat} (hl : 2 ≤ l.length) (hn : 2 ≤ n) : mn (((k : Int) * ((l.length : Int) - 1)) / ((n : Int) - 1)) ((l.length : Int) - 1 - 1) = ((segI l n k : Nat) : Int) := by
  have h1 : ((k : Int) * ((l.length : Int) - 1)) / ((n : Int) - 1) = ((k * (l.length - 1) / wholeN n : Nat) : Int) := by
    unfold wholeN
    rw [Nat.max_eq_right (by omega), Int.natCast_ediv, Int.natCast_mul, Int.natCast_sub (by omega), Int.natCast_sub (by omega)]
    rfl
  rw [h1]
  unfold mn segI
  split <;> omega
theorem seg_cast {l : List (Int × Int)} {n k : Nat} (hl : 2 ≤ l.length) (h8 : l.length ≤ 8) (hk : k ≤ 12) (hn : 2 ≤ n) : (k : Int) * ((l.length : Int) - 1) - ((segI l n k : Nat) : Int) * ((n : Int) - 1) = ((segR l n k : Nat) : Int) ∧ (n : Int) - 1 = ((wholeN n : Nat) : Int) := by
  have hb := seg_bound (n := n) hl h8 hk
  have e : (n : Int) - 1 = ((wholeN n : Nat) : Int) := by unfold wholeN; omega
  refine ⟨?_, e⟩
  unfold segR
  rw [Int.natCast_sub hb.2.1, Int.natCast_mul, Int.natCast_mul, Int.natCast_sub (by omega), e]
  rfl

set_option maxHeartbeats 1000000 in
theorem spotsAlong_one (b off cap : Nat) (l : List (Int × Int)) (h2 : 2 ≤ l.length) (h8 : l.length ≤ 8) {w : World} (ha : PairsAt w (some ⟨b, off, none⟩) l) :
    Calls Try.prog 48 #[.slice (some ⟨b, off, none⟩) l.length cap, .int .i64 1] w fun e w' => ∃ v, e = .returned v ∧ OwnPairs 24 w' w.heap.size v (wayTo l 1 1) ∧ Below w.heap.size w w' := by
  obtain ⟨b', off', hbb, c0, c1⟩ := ha 0 (by omega)
  simp only [Option.some.injEq, Addr.mk.injEq] at hbb
  obtain ⟨hb1', hb2', _⟩ := hbb
  subst hb1' hb2'
  rw [Nat.zero_mul, Nat.add_zero] at c0 c1
  have h3 : (0 : Int) < (l.length : Int) := by omega
  have h4 : 0 < l.length := by omega
  have hw := Lib.hid (way_one l)
  go_enter Try.func48, Try.ntmps48
  go_wp2
  go_ret
  refine ⟨_, rfl, ?_, (by repeat (first | exact Below.refl _ _ | assumption | refine Below.drew ?_ | refine below_drewN ?_ _ | refine Below.alloc ?_ (by first | omega | (simp; done) | (simp; omega)) _ | refine Below.setCell ?_ (by first | omega | (simp; done) | (simp; omega)) _ | refine Below.trans ?_ (Below.mono (by assumption) (by first | omega | (simp; done) | (simp; omega)))))⟩
  rw [hw.out]
  exact World.ownsRow_lit w #[.int .i64 (sx l 0), .int .i64 (sy l 0)] 1 (Nat.le_refl _) (by unfold maxLen; omega) rfl

set_option maxHeartbeats 4000000 in
theorem spotsAlong_more (b off cap : Nat) (l : List (Int × Int)) (hon : allOn l = true) (h2 : 2 ≤ l.length) (h8 : l.length ≤ 8) (N : Nat) (n1 : 2 ≤ N) (n2 : N ≤ 12) {w : World} (ha : PairsAt w (some ⟨b, off, none⟩) l) :
    Calls Try.prog 48 #[.slice (some ⟨b, off, none⟩) l.length cap, .int .i64 N] w fun e w' => ∃ v, e = .returned v ∧ OwnPairs 24 w' w.heap.size v (wayTo l N N) ∧ Below w.heap.size w w' := by
  obtain ⟨j0, hi, hz0, hz1, hz2⟩ := info_parts Try.infoSpot
  have HI := Lib.hid hi
  have HZ0 := Lib.hid hz0
  have HZ1 := Lib.hid hz1
  have HZ2 := Lib.hid hz2
  clear hi hz0 hz1 hz2
  have HA := Lib.hid ha
  have HON := Lib.hid hon
  clear ha hon
  have v1 : IntKind.i64.wrap ((l.length : Int) - 1) = (l.length : Int) - 1 := IntWalk.i64_in _ (by omega)
  have v3 : IntKind.i64.wrap ((N : Int) - 1) = (N : Int) - 1 := IntWalk.i64_in _ (by omega)
  have v4 : IntKind.i64.wrap ((l.length : Int) - 1 - 1) = (l.length : Int) - 1 - 1 := IntWalk.i64_in _ (by omega)
  have u1 : ¬ ((N : Int) = 1) := by omega
  have u2 : ((N : Int) == 1) = false := by simpa using u1
  have u3 : ¬ (N = 1) := by omega
  have u4 : (0 : Int) < (N : Int) - 1 := by omega
  have u5 : ¬ ((N : Int) - 1 = 0) := by omega
  go_enter Try.func48, Try.ntmps48
  go_wp2
  go_loopw [6, 19] (fun ov i wr => ∃ (k : Nat) (vo : Value), k ≤ N ∧ i = .int .i64 k ∧ ov = vo ∧ Hid (OwnPairs 24 wr w.heap.size vo (wayTo l N k)) ∧ Below w.heap.size w wr) (fun _ i _ => N - (intOf i).toNat)
  case atStart => exact ⟨0, _, Nat.zero_le _, rfl, rfl, Lib.hid (own_nil _ _ _), Below.refl _ _⟩
  case round =>
    obtain ⟨k, vo, hk, rfl, hv, HOWN, hbr⟩ := hrel
    replace hv := hv.symm
    subst hv
    have hsr := hbr.size
    by_cases hlt : k < N
    · obtain ⟨acc, hacc⟩ : ∃ acc, acc = wayTo l N k := ⟨_, rfl⟩
      have hst := wayTo_step l N k
      rw [← hacc] at HOWN hst
      have hal : acc.length = k := by rw [hacc, wayTo_length]
      have hal9 : acc.length ≤ 12 := by omega
      obtain ⟨s1, s2, s3, s4⟩ := seg_bound (l := l) (n := N) (k := k) h2 h8 (by omega)
      obtain ⟨t1, t2⟩ := seg_cast (l := l) (n := N) (k := k) h2 h8 (by omega) n1
      have hmn := mn_seg (l := l) (n := N) (k := k) h2 n1
      have hwp : wayP l N k = (bet (sx l (segI l N k)) (sx l (segI l N k + 1)) (segR l N k) (wholeN N), bet (sy l (segI l N k)) (sy l (segI l N k + 1)) (segR l N k) (wholeN N)) := rfl
      rw [← t1, ← t2] at hwp
      have k3 : (0 : Int) ≤ (k : Int) * ((l.length : Int) - 1) ∧ (k : Int) * ((l.length : Int) - 1) ≤ 84 := by
        have : (k : Int) * ((l.length : Int) - 1) = ((k * (l.length - 1) : Nat) : Int) := by rw [Int.natCast_mul, Int.natCast_sub (by omega)]; rfl
        omega
      have k4 : (0 : Int) ≤ ((segI l N k : Nat) : Int) * ((N : Int) - 1) ∧ ((segI l N k : Nat) : Int) * ((N : Int) - 1) ≤ 84 := by
        have : ((segI l N k : Nat) : Int) * ((N : Int) - 1) = ((segI l N k * wholeN N : Nat) : Int) := by rw [Int.natCast_mul, t2]
        omega
      obtain ⟨i, hi⟩ : ∃ i, i = segI l N k := ⟨_, rfl⟩
      rw [← hi] at s1 t1 hmn hwp k4
      have k5 : (0 : Int) ≤ (k : Int) * ((l.length : Int) - 1) - (i : Int) * ((N : Int) - 1) ∧ (k : Int) * ((l.length : Int) - 1) - (i : Int) * ((N : Int) - 1) ≤ 84 := by omega
      obtain ⟨rx, hrx⟩ : ∃ r, r = bet (sx l i) (sx l (i + 1)) ((k : Int) * ((l.length : Int) - 1) - (i : Int) * ((N : Int) - 1)) ((N : Int) - 1) := ⟨_, rfl⟩
      obtain ⟨ry, hry⟩ : ∃ r, r = bet (sy l i) (sy l (i + 1)) ((k : Int) * ((l.length : Int) - 1) - (i : Int) * ((N : Int) - 1)) ((N : Int) - 1) := ⟨_, rfl⟩
      have HB := Lib.hid (fun W => partOfWay_any (sx l i) (sy l i) (sx l (i + 1)) (sy l (i + 1)) ((k : Int) * ((l.length : Int) - 1) - (i : Int) * ((N : Int) - 1)) ((N : Int) - 1) (allOn_at HON.out i (by omega)) (allOn_at HON.out (i + 1) s1) k5.1 (by omega) (by omega) (by omega) W)
      rw [← hrx, ← hry] at HB hwp
      rw [hwp] at hst
      have HST := Lib.hid hst
      have HOL := Lib.hid (World.ownsRow.lt HOWN.out)
      have HOWN2 := Lib.hid (fun (W : World) (hb : Below wr.heap.size wr W) => own_below HOWN.out hb)
      obtain ⟨b1, off1, hb1, c0, c1⟩ := (HA.out.below hbr) i (by omega)
      obtain ⟨b2, off2, hb2, c2, c3⟩ := (HA.out.below hbr) (i + 1) s1
      simp only [Option.some.injEq, Addr.mk.injEq] at hb1 hb2
      obtain ⟨hx1, hx2, _⟩ := hb1
      obtain ⟨hx3, hx4, _⟩ := hb2
      subst hx1 hx2 hx3 hx4
      have hbl := World.block_lt_of_cell? _ _ c0
      have hbw : b < w.heap.size := by
        obtain ⟨b', off', hbb, c0', _⟩ := HA.out 0 (by omega)
        simp only [Option.some.injEq, Addr.mk.injEq] at hbb
        obtain ⟨hb1', _⟩ := hbb
        subst hb1'
        exact World.block_lt_of_cell? _ _ c0'
      have v2 : IntKind.i64.wrap ((k : Int) * ((l.length : Int) - 1)) = (k : Int) * ((l.length : Int) - 1) := IntWalk.i64_in _ (by omega)
      have v5 : IntKind.i64.wrap ((i : Int) + 1) = (i : Int) + 1 := IntWalk.i64_in _ (by omega)
      have v6 : IntKind.i64.wrap ((i : Int) * ((N : Int) - 1)) = (i : Int) * ((N : Int) - 1) := IntWalk.i64_in _ (by omega)
      have v7 : IntKind.i64.wrap ((k : Int) * ((l.length : Int) - 1) - (i : Int) * ((N : Int) - 1)) = (k : Int) * ((l.length : Int) - 1) - (i : Int) * ((N : Int) - 1) := IntWalk.i64_in _ (by omega)
      have v8 := mn_fold
      have i0 : (0 : Int) ≤ (k : Int) := by omega
      have i1 : (k : Int) < (N : Int) := by omega
      have i2 : (0 : Int) ≤ (i : Int) := by omega
      have i3 : (i : Int) < (l.length : Int) := by omega
      have i4 : (0 : Int) ≤ (i : Int) + 1 := by omega
      have i5 : (i : Int) + 1 < (l.length : Int) := by omega
      have i6 : ((i : Int) + 1).toNat = i + 1 := by omega
      have k6 := k3.1
      have hq : wrap64 (((k : Int) * ((l.length : Int) - 1)).tdiv ((N : Int) - 1)) = ((k : Int) * ((l.length : Int) - 1)) / ((N : Int) - 1) := by
        rw [Int.tdiv_eq_ediv_of_nonneg k6]
        have e1 : 0 ≤ ((k : Int) * ((l.length : Int) - 1)) / ((N : Int) - 1) := Int.ediv_nonneg k6 (by omega)
        have e2 : ((k : Int) * ((l.length : Int) - 1)) / ((N : Int) - 1) ≤ (k : Int) * ((l.length : Int) - 1) := Int.ediv_le_self _ k6
        exact IntWalk.wrap64_in _ ⟨by omega, by omega⟩
      rw [← hq] at hmn
      clear hacc hst hrx hry hwp hal t1 t2 hi k3 k4 k5 s2 s3 s4 hq
      go_wp2_with fail
      go_region_held3 (fun w' => w'.cell? ⟨b, off + i * 2, none⟩ = some (.int .i64 (sx l i)) ∧ w'.cell? ⟨b, off + i * 2 + 1, none⟩ = some (.int .i64 (sy l i)) ∧ w'.cell? ⟨b, off + (i + 1) * 2, none⟩ = some (.int .i64 (sx l (i + 1))) ∧ w'.cell? ⟨b, off + (i + 1) * 2 + 1, none⟩ = some (.int .i64 (sy l (i + 1))))
        (first | (refine ⟨?_, ?_, ?_, ?_⟩ <;> first | (go_keep; done) | (simp [*, World.cell?_alloc_past, World.cell?_setCell_far]; done) | (simp [*, World.cell?_alloc_past, World.cell?_alloc_at, World.cell?_setCell_far]; done) | (go_simp; done)) | (refine ⟨?_, ?_, ?_, ?_⟩ <;> first | (rw [hgrow5.cell_far _ (by first | omega | (simp; done) | (simp; omega)) (fun e => by have := HOL.out _ e.symm; first | omega | (simp at this; done) | (simp at this; omega))]; first | assumption | (go_simp; done))))
        (first | (go_at_call 64; ((with_reducible refine (HB.out _).mono ?_); rintro e w3 ⟨rfl, hb3⟩; have hs3 := hb3.size; (try simp at hs3); have q0 : w3.cell? ⟨b, off + i * 2, none⟩ = _ := hb3.cell (p := ⟨b, off + i * 2, none⟩) (by first | omega | (simp; done) | (simp; omega)); have q1 : w3.cell? ⟨b, off + i * 2 + 1, none⟩ = _ := hb3.cell (p := ⟨b, off + i * 2 + 1, none⟩) (by first | omega | (simp; done) | (simp; omega)); have q2 : w3.cell? ⟨b, off + (i + 1) * 2, none⟩ = _ := hb3.cell (p := ⟨b, off + (i + 1) * 2, none⟩) (by first | omega | (simp; done) | (simp; omega)); have q3 : w3.cell? ⟨b, off + (i + 1) * 2 + 1, none⟩ = _ := hb3.cell (p := ⟨b, off + (i + 1) * 2 + 1, none⟩) (by first | omega | (simp; done) | (simp; omega)))) | ((refine step_append_lies _ (by rfl) _ _ 32 (by rfl) (w.heap.size) 24 j0 (.agg #[.int .i64 0, .int .i64 0]) 2 16 Try.underlying32 HI.out HZ0.out HZ1.out HZ2.out rfl (by omega) vo (acc.length) (pairV acc) (by rfl) (HOWN2.out _ (by repeat (first | exact Below.refl _ _ | assumption | refine Below.drew ?_ | refine below_drewN ?_ _ | refine Below.alloc ?_ (by first | omega | (simp; done) | (simp; omega)) _ | refine Below.setCell ?_ (by first | omega | (simp; done) | (simp; omega)) _ | refine Below.trans ?_ (Below.mono (by assumption) (by first | omega | (simp; done) | (simp; omega)))))) ⟨_, 0, none⟩ 1 1 [.int .i64 rx, .int .i64 ry] (by rfl) (by rfl) (World.news_of_block (cs := #[.int .i64 rx, .int .i64 ry]) (t := 24) (fr := (0, 0)) (heap_alloc_new _ _)) (by simp [Value.oneCell']) (by omega) (by unfold maxLen; omega) (by omega) (by simp; omega) _ rfl ?_; intro gg cap5 w5 hown5 hgrow5 hat5 hlt5)))
      all_goals
        have hb5 : Below w.heap.size w w5 := Below.grown (by repeat (first | exact Below.refl _ _ | assumption | refine Below.drew ?_ | refine below_drewN ?_ _ | refine Below.alloc ?_ (by first | omega | (simp; done) | (simp; omega)) _ | refine Below.setCell ?_ (by first | omega | (simp; done) | (simp; omega)) _ | refine Below.trans ?_ (Below.mono (by assumption) (by first | omega | (simp; done) | (simp; omega))))) hgrow5 (by first | (simp; omega) | omega) (fun q hq => by have := HOL.out q hq; omega)
        have hown6 : OwnPairs 24 w5 w.heap.size (.slice (some ⟨gg, 0, none⟩) (acc.length + 1) cap5) (wayTo l N (k + 1)) := by rw [HST.out, OwnPairs, pairV_append, List.length_append]; simpa [pairV] using hown5
        have HO6 := Lib.hid hown6
        clear hat5 hgrow5 hown5 hown6
        have hs5 := hb5.size
        clear hmn v8
        go_wp2
        go_roundw
        case rel => exact ⟨k + 1, _, by omega, by go_num, rfl, HO6, hb5⟩
        case measure => simp [intOf]; omega
    · obtain rfl : k = N := by omega
      go_wp2
      go_ret
      exact ⟨_, rfl, HOWN.out, (by repeat (first | exact Below.refl _ _ | assumption | refine Below.drew ?_ | refine below_drewN ?_ _ | refine Below.alloc ?_ (by first | omega | (simp; done) | (simp; omega)) _ | refine Below.setCell ?_ (by first | omega | (simp; done) | (simp; omega)) _ | refine Below.trans ?_ (Below.mono (by assumption) (by first | omega | (simp; done) | (simp; omega)))))⟩
theorem spotsAlong_any (a : Option Addr) (cap : Nat) (l : List (Int × Int)) (hon : allOn l = true) (h2 : 2 ≤ l.length) (h8 : l.length ≤ 8) (N : Nat) (n1 : 1 ≤ N) (n2 : N ≤ 12) {w : World} (ha : PairsAt w a l) :
    Calls Try.prog 48 #[.slice a l.length cap, .int .i64 N] w fun e w' => ∃ v, e = .returned v ∧ OwnPairs 24 w' w.heap.size v (wayTo l N N) ∧ Below w.heap.size w w' := by
  obtain ⟨b, off, rfl⟩ := ha.some_of (by omega)
  by_cases e : N = 1
  · subst e; exact spotsAlong_one b off cap l h2 h8 ha
  · exact spotsAlong_more b off cap l hon h2 h8 N (by omega) n2 ha

end Go.Proofs.Ytppnomflmacpkaa
