/- Ways from corner to corner, the other side. No conditions but those written in each theorem. -/
import Derived.Test.YtppnomflmacpkaaFmPolyI
import Derived.Deep.RegionHeld3
import Derived.Deep.DrawnRows
import Derived.IntWalk
import Derived.Laws.AppendOwn
import Derived.Deep.AppendLies
namespace Go.Proofs.Ytppnomflmacpkaa
open Go.RowKit


attribute [local go_sem ↓] Go.wp_at_zero Go.wp_at_succ

theorem seg_spec {l : List (Int × Int)} {n k M : Nat} (hM : M = wholeN n) (h2 : 2 ≤ l.length) (h8 : l.length ≤ 8) (hk : k ≤ 12) (hn : n ≤ 12) : lo2 (wrap64 (((k : Int) * ((l.length : Int) - 1)).tdiv (M : Int))) ((l.length : Int) - 1 - 1) = ((segI l n k : Nat) : Int) ∧ (k : Int) * ((l.length : Int) - 1) - ((segI l n k : Nat) : Int) * (M : Int) = ((segR l n k : Nat) : Int) := by
  have hb := seg_bound (n := n) h2 h8 hk
  have hw := wholeN_bound hn
  have e0 : (k : Int) * ((l.length : Int) - 1) = ((k * (l.length - 1) : Nat) : Int) := by rw [Int.natCast_mul, Int.natCast_sub (by omega)]; rfl
  have e1 : wrap64 (((k : Int) * ((l.length : Int) - 1)).tdiv (M : Int)) = ((k * (l.length - 1) / wholeN n : Nat) : Int) := by
    rw [e0, hM, Int.tdiv_eq_ediv_of_nonneg (by omega), ← Int.natCast_ediv]
    have h9 := Nat.div_le_self (k * (l.length - 1)) (wholeN n)
    have h10 := hb.2.2.2
    obtain ⟨q, hq⟩ : ∃ q, q = k * (l.length - 1) / wholeN n := ⟨_, rfl⟩
    rw [← hq] at h9 ⊢
    exact IntWalk.wrap64_in _ ⟨by omega, by omega⟩
  refine ⟨?_, ?_⟩
  · rw [e1]
    unfold lo2 segI
    split <;> omega
  · rw [e0]
    unfold segR
    rw [Int.natCast_sub hb.2.1, Int.natCast_mul (segI l n k), hM]
set_option maxHeartbeats 1000000 in
theorem specPoly_no (a : Option Addr) (cap : Nat) (l : List (Int × Int)) (hl : l.length ≤ 1048576) {w : World} (ha : PairsAt w a l) (n : Int) (hk : polyG l n = false) :
    Calls Try.prog 22 #[.slice a l.length cap, .int .i64 n] w fun e w' => e = .returned (.tuple #[.slice none 0 0, .bool false]) ∧ Below w.heap.size w w' := by
  have HS := Lib.hid (fun (W : World) (hb : Below w.heap.size w W) => stList_any a cap l hl (ha.below hb))
  unfold polyG at hk
  cases h1 : inB 2 (l.length : Int) 8 <;> cases h2 : okList l <;> cases h3 : inB 1 n 12
  all_goals first | (exfalso; rw [h1, h2, h3] at hk; cases hk; done) | clear hk
  all_goals
    have H1 := Lib.hid h1
    have H2 := Lib.hid h2
    have H3 := Lib.hid h3
    clear h1 h2 h3
    go_enter Try.func22, Try.ntmps22
    go_wp2_with (first | (go_at_call 32; (refine (l1In_any _ _ _ _).mono ?_; rw [H1.out]; rintro e w' ⟨rfl, rfl⟩)) | (go_at_call 49; (refine (HS.out _ (by repeat (first | exact Below.refl _ _ | assumption | refine Below.drew ?_ | refine below_drewN ?_ _ | refine Below.alloc ?_ (by first | omega | (simp; done) | (simp; omega)) _ | refine Below.setCell ?_ (by first | omega | (simp; done) | (simp; omega)) _ | refine Below.trans ?_ (Below.mono (by assumption) (by first | omega | (simp; done) | (simp; omega)))))).mono ?_; rw [H2.out]; rintro e w1 ⟨rfl, hb1⟩; have hs1 := hb1.size)) | (go_at_call 41; (refine (fmCount_any _ _).mono ?_; rw [H3.out]; rintro e w' ⟨rfl, rfl⟩)))
    go_ret2
    exact ⟨rfl, (by repeat (first | exact Below.refl _ _ | assumption | refine Below.drew ?_ | refine below_drewN ?_ _ | refine Below.alloc ?_ (by first | omega | (simp; done) | (simp; omega)) _ | refine Below.setCell ?_ (by first | omega | (simp; done) | (simp; omega)) _ | refine Below.trans ?_ (Below.mono (by assumption) (by first | omega | (simp; done) | (simp; omega)))))⟩

set_option maxHeartbeats 8000000 in
theorem specPoly_yes (b off cap : Nat) (l : List (Int × Int)) (N M : Nat) (hM : M = wholeN N) (hg : polyG l N = true) {w : World} (ha : PairsAt w (some ⟨b, off, none⟩) l) (X : List (Int × Int)) (bo : Bool) (hX : X = if nbP l then chIf (wayTo l N N) else []) (hbo : bo = (nbP l && chOk (wayTo l N N))) :
    Calls Try.prog 22 #[.slice (some ⟨b, off, none⟩) l.length cap, .int .i64 N] w fun e w' => ∃ v, e = .returned (.tuple #[v, .bool bo]) ∧ OwnPairs 24 w' w.heap.size v X ∧ Below w.heap.size w w' := by
  obtain ⟨j0, hi, hz0, hz1, hz2⟩ := info_parts Try.infoSpot
  have HI := Lib.hid hi
  have HZ0 := Lib.hid hz0
  have HZ1 := Lib.hid hz1
  have HZ2 := Lib.hid hz2
  clear hi hz0 hz1 hz2
  have HX := Lib.hid hX
  have HBO := Lib.hid hbo
  clear hX hbo
  unfold polyG at hg
  rw [Bool.and_eq_true, Bool.and_eq_true] at hg
  obtain ⟨⟨h2, h1⟩, h3⟩ := hg
  obtain ⟨g1, g2⟩ := inB_iff.1 h1
  obtain ⟨g3, g4⟩ := inB_iff.1 h3
  have hl : l.length ≤ 1048576 := by omega
  have HS := Lib.hid (fun (W : World) (hb : Below w.heap.size w W) => stList_any (some ⟨b, off, none⟩) cap l hl (ha.below hb))
  have hl12 : (wayTo l N N).length ≤ 1048576 := by rw [wayTo_length]; omega
  have HC := Lib.hid (fun W b v ho => chIfS (w := W) (base := b) (v := v) hl12 ho)
  obtain ⟨m1, m2⟩ := wholeN_bound (n := N) (by omega)
  rw [← hM] at m1 m2
  have HL := Lib.hid (show ∀ W : World, Calls Try.prog 43 #[.int .i64 1, .int .i64 ((N : Int) - 1)] W fun e w' => e = .returned (.int .i64 (M : Nat)) ∧ W = w' from fun W => by
    have e : hi2 1 ((N : Int) - 1) = ((M : Nat) : Int) := by rw [hi2_max, hM]; unfold wholeN; omega
    rw [← e]; exact l1Most_any _ _ W)
  have HM := Lib.hid hM
  have hbw : b < w.heap.size := by
    obtain ⟨b', off', hbb, c0', _⟩ := ha 0 (by omega)
    simp only [Option.some.injEq, Addr.mk.injEq] at hbb
    obtain ⟨hb1', _⟩ := hbb
    subst hb1'
    exact World.block_lt_of_cell? _ _ c0'
  have HON := Lib.hid (okList_parts h2).1
  have HA := Lib.hid ha
  have H1 := Lib.hid h1
  have H2 := Lib.hid h2
  have H3 := Lib.hid h3
  have v1 : IntKind.i64.wrap ((l.length : Int) - 1) = (l.length : Int) - 1 := IntWalk.i64_in _ (by omega)
  have v3 : IntKind.i64.wrap ((N : Int) - 1) = (N : Int) - 1 := IntWalk.i64_in _ (by omega)
  have v4 : IntKind.i64.wrap ((l.length : Int) - 1 - 1) = (l.length : Int) - 1 - 1 := IntWalk.i64_in _ (by omega)
  have u5 : ¬ ((M : Int) = 0) := by omega
  clear h1 h2 h3 ha hl12 hM
  go_enter Try.func22, Try.ntmps22
  go_wp2_with (first | (go_at_call 32; (refine (l1In_any _ _ _ _).mono ?_; rw [H1.out]; rintro e w' ⟨rfl, rfl⟩)) | (go_at_call 49; (refine (HS.out _ (by repeat (first | exact Below.refl _ _ | assumption | refine Below.drew ?_ | refine below_drewN ?_ _ | refine Below.alloc ?_ (by first | omega | (simp; done) | (simp; omega)) _ | refine Below.setCell ?_ (by first | omega | (simp; done) | (simp; omega)) _ | refine Below.trans ?_ (Below.mono (by assumption) (by first | omega | (simp; done) | (simp; omega)))))).mono ?_; rw [H2.out]; rintro e w1 ⟨rfl, hb1⟩; have hs1 := hb1.size)) | (go_at_call 41; (refine (fmCount_any _ _).mono ?_; rw [H3.out]; rintro e w' ⟨rfl, rfl⟩)))
  have hbw1 : Below w.heap.size w w1 := (by repeat (first | exact Below.refl _ _ | assumption | refine Below.drew ?_ | refine below_drewN ?_ _ | refine Below.alloc ?_ (by first | omega | (simp; done) | (simp; omega)) _ | refine Below.setCell ?_ (by first | omega | (simp; done) | (simp; omega)) _ | refine Below.trans ?_ (Below.mono (by assumption) (by first | omega | (simp; done) | (simp; omega)))))
  clear hb1
  go_loopw [6] (fun i wr => ∃ (m : Nat), 1 ≤ m ∧ m ≤ l.length ∧ i = .int .i64 m ∧ Hid (NbTo l (m - 1)) ∧ Below w.heap.size w wr) (fun i _ => l.length - (intOf i).toNat)
  case atStart => exact ⟨1, by omega, by omega, rfl, Lib.hid (fun i hi => absurd hi (Nat.not_lt_zero i)), hbw1⟩
  case round =>
    clear hbw1
    obtain ⟨m, hm1, hm2, rfl, HNB, hbr⟩ := hrel
    have hsr := hbr.size
    by_cases hlt : m < l.length
    · obtain ⟨b1, off1, hb1, c0, c1⟩ := (HA.out.below hbr) m hlt
      obtain ⟨b2, off2, hb2, c2, c3⟩ := (HA.out.below hbr) (m - 1) (by omega)
      simp only [Option.some.injEq, Addr.mk.injEq] at hb1 hb2
      obtain ⟨hx1, hx2, _⟩ := hb1
      obtain ⟨hx3, hx4, _⟩ := hb2
      subst hx1 hx2 hx3 hx4
      have i0 : (0 : Int) ≤ (m : Int) := by omega
      have i1 : (m : Int) < (l.length : Int) := by omega
      have i2 : (0 : Int) ≤ (m : Int) - 1 := by omega
      have i3 : (m : Int) - 1 < (l.length : Int) := by omega
      have i4 : ((m : Int) - 1).toNat = m - 1 := by omega
      have i5 : IntKind.i64.wrap ((m : Int) - 1) = (m : Int) - 1 := IntWalk.i64_in _ (by omega)
      have i6 : (1 : Int) ≤ (m : Int) := by omega
      by_cases hs : same l (m - 1) (m - 1 + 1)
      · have E0 := Lib.hid (nbP_no (by omega) hs)
        rw [Nat.sub_add_cancel hm1] at hs
        rw [hs.1] at c2
        rw [hs.2] at c3
        clear hs
        go_wp2
        go_quiet (fail)
        go_wp2
        go_ret2
        exact ⟨_, by rw [HBO.out, E0.out]; rfl, by rw [HX.out, E0.out]; exact own_nil _ _ _, (by repeat (first | exact Below.refl _ _ | assumption | refine Below.drew ?_ | refine below_drewN ?_ _ | refine Below.alloc ?_ (by first | omega | (simp; done) | (simp; omega)) _ | refine Below.setCell ?_ (by first | omega | (simp; done) | (simp; omega)) _ | refine Below.trans ?_ (Below.mono (by assumption) (by first | omega | (simp; done) | (simp; omega)))))⟩
      · have HNB2 := Lib.hid (ext_lt (p := fun j => ¬ same l j (j + 1)) HNB.out hs)
        rw [Nat.sub_add_cancel hm1] at HNB2 hs
        have hb2 : (sx l m == sx l (m - 1)) = false ∨ ((sx l m == sx l (m - 1)) = true ∧ (sy l m == sy l (m - 1)) = false) := by
          by_cases e : sx l m = sx l (m - 1)
          · refine .inr ⟨by simpa using e, ?_⟩
            have : sy l m ≠ sy l (m - 1) := fun e2 => hs ⟨e.symm, e2.symm⟩
            simpa using this
          · exact .inl (by simpa using e)
        clear hs
        rcases hb2 with q1 | ⟨q1, q2⟩
        all_goals
          go_wp2
          go_quiet (fail)
          go_wp2
          go_roundw
          case rel => exact ⟨m + 1, by omega, by omega, by go_num, HNB2, (by repeat (first | exact Below.refl _ _ | assumption | refine Below.drew ?_ | refine below_drewN ?_ _ | refine Below.alloc ?_ (by first | omega | (simp; done) | (simp; omega)) _ | refine Below.setCell ?_ (by first | omega | (simp; done) | (simp; omega)) _ | refine Below.trans ?_ (Below.mono (by assumption) (by first | omega | (simp; done) | (simp; omega)))))⟩
          case measure => simp [intOf]; omega
    · obtain rfl : m = l.length := by omega
      have E0 := Lib.hid (nbP_yes HNB.out)
      clear HNB hlt hm1 hm2
      go_wp2_with (first | (go_at_call 43; ((with_reducible refine (HL.out _).mono ?_); rintro e w' ⟨rfl, rfl⟩)))
      go_loopw [9, 10] (fun ov i wr => ∃ (k : Nat) (vo : Value), k ≤ N ∧ i = .int .i64 k ∧ ov = vo ∧ Hid (OwnPairs 24 wr w.heap.size vo (wayTo l N k)) ∧ Below w.heap.size w wr) (fun _ i _ => N - (intOf i).toNat)
      case atStart => exact ⟨0, _, Nat.zero_le _, rfl, rfl, Lib.hid (own_nil _ _ _), hbr⟩
      case round =>
        clear hbr hsr
        obtain ⟨k, vo, hk, rfl, hv, HOWN, hbr⟩ := hrel
        replace hv := hv.symm
        subst hv
        have hsr := hbr.size
        by_cases hlt : k < N
        · obtain ⟨acc, hacc⟩ : ∃ acc, acc = wayTo l N k := ⟨_, rfl⟩
          have hst := wayTo_step l N k
          rw [← hacc] at HOWN hst
          have hal : acc.length = k := by rw [hacc, wayTo_length]
          have hal9 : acc.length ≤ 12 := by omega
          obtain ⟨s1, s2, s3, s4⟩ := seg_bound (l := l) (n := N) (k := k) (by omega) (by omega) (by omega)
          obtain ⟨hlo, t1⟩ := seg_spec (l := l) (n := N) (k := k) (M := M) HM.out (by omega) (by omega) (by omega) (by omega)
          have hwp : wayP l N k = (bet (sx l (segI l N k)) (sx l (segI l N k + 1)) (segR l N k) (wholeN N), bet (sy l (segI l N k)) (sy l (segI l N k + 1)) (segR l N k) (wholeN N)) := rfl
          rw [← t1, ← HM.out] at hwp
          have k3 : (0 : Int) ≤ (k : Int) * ((l.length : Int) - 1) ∧ (k : Int) * ((l.length : Int) - 1) ≤ 84 := by
            have : (k : Int) * ((l.length : Int) - 1) = ((k * (l.length - 1) : Nat) : Int) := by rw [Int.natCast_mul, Int.natCast_sub (by omega)]; rfl
            omega
          have k4 : (0 : Int) ≤ ((segI l N k : Nat) : Int) * (M : Int) ∧ ((segI l N k : Nat) : Int) * (M : Int) ≤ 84 := by
            have : ((segI l N k : Nat) : Int) * (M : Int) = ((segI l N k * wholeN N : Nat) : Int) := by rw [Int.natCast_mul, HM.out]
            omega
          obtain ⟨i, hi⟩ : ∃ i, i = segI l N k := ⟨_, rfl⟩
          rw [← hi] at s1 t1 hlo hwp k4
          have k5 : (0 : Int) ≤ (k : Int) * ((l.length : Int) - 1) - (i : Int) * (M : Int) ∧ (k : Int) * ((l.length : Int) - 1) - (i : Int) * (M : Int) ≤ 84 := by omega
          obtain ⟨rx, hrx⟩ : ∃ r, r = bet (sx l i) (sx l (i + 1)) ((k : Int) * ((l.length : Int) - 1) - (i : Int) * (M : Int)) (M : Int) := ⟨_, rfl⟩
          obtain ⟨ry, hry⟩ : ∃ r, r = bet (sy l i) (sy l (i + 1)) ((k : Int) * ((l.length : Int) - 1) - (i : Int) * (M : Int)) (M : Int) := ⟨_, rfl⟩
          have HB := Lib.hid (fun W => fmBetween_any (sx l i) (sy l i) (sx l (i + 1)) (sy l (i + 1)) ((k : Int) * ((l.length : Int) - 1) - (i : Int) * (M : Int)) (M : Int) (allOn_at HON.out i (by omega)) (allOn_at HON.out (i + 1) s1) k5.1 (by omega) (by omega) (by omega) W)
          rw [← hrx, ← hry] at HB hwp
          rw [hwp] at hst
          have HST := Lib.hid hst
          have HLE := Lib.hid (show ∀ W : World, Calls Try.prog 50 #[.int .i64 (wrap64 (((k : Int) * ((l.length : Int) - 1)).tdiv (M : Int))), .int .i64 ((l.length : Int) - 1 - 1)] W fun e w' => e = .returned (.int .i64 (i : Nat)) ∧ W = w' from fun W => by rw [← hlo]; exact l1Least_any _ _ W)
          have HOL := Lib.hid (World.ownsRow.lt HOWN.out)
          have HOWN2 := Lib.hid (fun (W : World) (hb : Below wr.heap.size wr W) => own_below HOWN.out hb)
          obtain ⟨b1, off1, hb1, c0, c1⟩ := (HA.out.below hbr) i (by omega)
          obtain ⟨b2, off2, hb2, c2, c3⟩ := (HA.out.below hbr) (i + 1) s1
          simp only [Option.some.injEq, Addr.mk.injEq] at hb1 hb2
          obtain ⟨hx1, hx2, _⟩ := hb1
          obtain ⟨hx3, hx4, _⟩ := hb2
          subst hx1 hx2 hx3 hx4
          have hbl : b < wr.heap.size := World.block_lt_of_cell? _ _ c0
          have v2 : IntKind.i64.wrap ((k : Int) * ((l.length : Int) - 1)) = (k : Int) * ((l.length : Int) - 1) := IntWalk.i64_in _ (by omega)
          have v5 : IntKind.i64.wrap ((i : Int) + 1) = (i : Int) + 1 := IntWalk.i64_in _ (by omega)
          have v6 : IntKind.i64.wrap ((i : Int) * (M : Int)) = (i : Int) * (M : Int) := IntWalk.i64_in _ (by omega)
          have v7 : IntKind.i64.wrap ((k : Int) * ((l.length : Int) - 1) - (i : Int) * (M : Int)) = (k : Int) * ((l.length : Int) - 1) - (i : Int) * (M : Int) := IntWalk.i64_in _ (by omega)
          have i0 : (0 : Int) ≤ (k : Int) := by omega
          have i1 : (k : Int) < (N : Int) := by omega
          have i2 : (0 : Int) ≤ (i : Int) := by omega
          have i3 : (i : Int) < (l.length : Int) := by omega
          have i4 : (0 : Int) ≤ (i : Int) + 1 := by omega
          have i5 : (i : Int) + 1 < (l.length : Int) := by omega
          have i6 : ((i : Int) + 1).toNat = i + 1 := by omega
          have k6 := k3.1
          clear hacc hst hrx hry hwp hal t1 hi k3 k4 k5 s2 s3 s4 hlo
          go_wp2_with (first | (go_at_call 50; ((with_reducible refine (HLE.out _).mono ?_); rintro e w' ⟨rfl, rfl⟩)))
          go_region_held3 (fun w' => w'.cell? ⟨b, off + i * 2, none⟩ = some (.int .i64 (sx l i)) ∧ w'.cell? ⟨b, off + i * 2 + 1, none⟩ = some (.int .i64 (sy l i)) ∧ w'.cell? ⟨b, off + (i + 1) * 2, none⟩ = some (.int .i64 (sx l (i + 1))) ∧ w'.cell? ⟨b, off + (i + 1) * 2 + 1, none⟩ = some (.int .i64 (sy l (i + 1))))
            (first | (refine ⟨?_, ?_, ?_, ?_⟩ <;> first | (go_keep; done) | (simp [*, World.cell?_alloc_past, World.cell?_setCell_far]; done) | (simp [*, World.cell?_alloc_past, World.cell?_alloc_at, World.cell?_setCell_far]; done) | (go_simp; done)) | (refine ⟨?_, ?_, ?_, ?_⟩ <;> first | (rw [hgrow5.cell_far _ (by first | omega | (simp; done) | (simp; omega)) (fun e => by have := HOL.out _ e.symm; first | omega | (simp at this; done) | (simp at this; omega))]; first | assumption | (go_simp; done))))
            (first | (go_at_call 42; ((with_reducible refine (HB.out _).mono ?_); rintro e w3 ⟨rfl, hb3⟩; have hs3 := hb3.size; (try simp at hs3); have q0 : w3.cell? ⟨b, off + i * 2, none⟩ = _ := hb3.cell (p := ⟨b, off + i * 2, none⟩) (by first | omega | (simp; done) | (simp; omega)); have q1 : w3.cell? ⟨b, off + i * 2 + 1, none⟩ = _ := hb3.cell (p := ⟨b, off + i * 2 + 1, none⟩) (by first | omega | (simp; done) | (simp; omega)); have q2 : w3.cell? ⟨b, off + (i + 1) * 2, none⟩ = _ := hb3.cell (p := ⟨b, off + (i + 1) * 2, none⟩) (by first | omega | (simp; done) | (simp; omega)); have q3 : w3.cell? ⟨b, off + (i + 1) * 2 + 1, none⟩ = _ := hb3.cell (p := ⟨b, off + (i + 1) * 2 + 1, none⟩) (by first | omega | (simp; done) | (simp; omega)))) | ((refine step_append_lies _ (by rfl) _ _ 32 (by rfl) (w.heap.size) 24 j0 (.agg #[.int .i64 0, .int .i64 0]) 2 16 Try.underlying32 HI.out HZ0.out HZ1.out HZ2.out rfl (by omega) vo (acc.length) (pairV acc) (by rfl) (HOWN2.out _ (by repeat (first | exact Below.refl _ _ | assumption | refine Below.drew ?_ | refine below_drewN ?_ _ | refine Below.alloc ?_ (by first | omega | (simp; done) | (simp; omega)) _ | refine Below.setCell ?_ (by first | omega | (simp; done) | (simp; omega)) _ | refine Below.trans ?_ (Below.mono (by assumption) (by first | omega | (simp; done) | (simp; omega)))))) ⟨_, 0, none⟩ 1 1 [.int .i64 rx, .int .i64 ry] (by rfl) (by rfl) (World.news_of_block (cs := #[.int .i64 rx, .int .i64 ry]) (t := 24) (fr := (0, 0)) (heap_alloc_new _ _)) (by simp [Value.oneCell']) (by omega) (by unfold maxLen; omega) (by omega) (by simp; omega) _ rfl ?_; intro gg cap5 w5 hown5 hgrow5 hat5 hlt5)))
          all_goals
            have hb5 : Below w.heap.size w w5 := Below.grown (by repeat (first | exact Below.refl _ _ | assumption | refine Below.drew ?_ | refine below_drewN ?_ _ | refine Below.alloc ?_ (by first | omega | (simp; done) | (simp; omega)) _ | refine Below.setCell ?_ (by first | omega | (simp; done) | (simp; omega)) _ | refine Below.trans ?_ (Below.mono (by assumption) (by first | omega | (simp; done) | (simp; omega))))) hgrow5 (by first | (simp; omega) | omega) (fun q hq => by have := HOL.out q hq; omega)
            have hown6 : OwnPairs 24 w5 w.heap.size (.slice (some ⟨gg, 0, none⟩) (acc.length + 1) cap5) (wayTo l N (k + 1)) := by rw [HST.out, OwnPairs, pairV_append, List.length_append]; simpa [pairV] using hown5
            have HO6 := Lib.hid hown6
            clear hat5 hgrow5 hown5 hown6
            have hs5 := hb5.size
            go_wp2
            go_roundw
            case rel => exact ⟨k + 1, _, by omega, by go_num, rfl, HO6, hb5⟩
            case measure => simp [intOf]; omega
        · obtain rfl : k = N := by omega
          have HOB := Lib.hid (fun (W : World) (hb : Below wr.heap.size wr W) => own_below HOWN.out hb)
          go_wp2_with (go_at_call 44; (refine (HC.out _ _ _ (HOB.out _ (by repeat (first | exact Below.refl _ _ | assumption | refine Below.drew ?_ | refine below_drewN ?_ _ | refine Below.alloc ?_ (by first | omega | (simp; done) | (simp; omega)) _ | refine Below.setCell ?_ (by first | omega | (simp; done) | (simp; omega)) _ | refine Below.trans ?_ (Below.mono (by assumption) (by first | omega | (simp; done) | (simp; omega))))))).mono ?_; rintro e w4 ⟨v4, rfl, ho4, hb4⟩; have hs4 := hb4.size))
          go_ret2
          exact ⟨_, by rw [HBO.out, E0.out]; rfl, by rw [HX.out, E0.out]; exact own_mono ho4 (by omega), (by repeat (first | exact Below.refl _ _ | assumption | refine Below.drew ?_ | refine below_drewN ?_ _ | refine Below.alloc ?_ (by first | omega | (simp; done) | (simp; omega)) _ | refine Below.setCell ?_ (by first | omega | (simp; done) | (simp; omega)) _ | refine Below.trans ?_ (Below.mono (by assumption) (by first | omega | (simp; done) | (simp; omega)))))⟩
theorem specPoly_any (a : Option Addr) (cap : Nat) (l : List (Int × Int)) (hl : l.length ≤ 1048576) {w : World} (ha : PairsAt w a l) (n : Int) :
    Calls Try.prog 22 #[.slice a l.length cap, .int .i64 n] w fun e w' => ∃ v, e = .returned (.tuple #[v, .bool (polyOk l n && chOk (polyL l n))]) ∧ OwnPairs 24 w' w.heap.size v (chIf (polyL l n)) ∧ Below w.heap.size w w' := by
  cases hk : polyG l n
  · have e1 : polyOk l n = false := by unfold polyOk; rw [hk]; rfl
    have e : polyL l n = [] := by unfold polyL; rw [e1]; rfl
    rw [e, e1, chIf_no (show chOk [] = false from rfl)]
    exact (specPoly_no a cap l hl ha n hk).mono fun e w' ⟨he, hb⟩ => ⟨_, he, own_nil _ _ _, hb⟩
  · have hk2 := hk
    unfold polyG at hk2
    rw [Bool.and_eq_true, Bool.and_eq_true, inB_iff, inB_iff] at hk2
    obtain ⟨⟨_, g1, _⟩, g3, g4⟩ := hk2
    obtain ⟨b, off, rfl⟩ := ha.some_of (by omega)
    have hn : ((n.toNat : Nat) : Int) = n := Int.toNat_of_nonneg (by omega)
    have e1 : polyOk l n = nbP l := by unfold polyOk; rw [hk]; rfl
    have h := specPoly_yes b off cap l n.toNat _ rfl (by rw [hn]; exact hk) ha _ _ rfl rfl
    rw [hn] at h
    rw [e1]
    cases hnb : nbP l
    · have e : polyL l n = [] := by unfold polyL; rw [e1, hnb]; rfl
      rw [e, chIf_no (show chOk [] = false from rfl)]
      rw [hnb] at h
      exact h
    · have e : polyL l n = wayTo l n.toNat n.toNat := by unfold polyL; rw [e1, hnb]; rfl
      rw [e]
      rw [hnb] at h
      exact h

end Go.Proofs.Ytppnomflmacpkaa
