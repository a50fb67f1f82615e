/- Ways from corner to corner: plain mathematics, and PolyLine, the program's side. No conditions but those written in each theorem. -/
import Derived.Test.YtppnomflmacpkaaFmWayI
import Derived.Deep.RegionHeld3
import Derived.Deep.DrawnRows
import Derived.IntWalk
import Derived.Laws.AppendOwn
import Derived.Deep.AppendLies
namespace Go.Proofs.Ytppnomflmacpkaa
open Go.RowKit


attribute [local go_sem ↓] Go.wp_at_zero Go.wp_at_succ

/-- Are neighbours different? -/
def NbTo (l : List (Int × Int)) (k : Nat) : Prop := ∀ i, i < k → ¬ same l i (i + 1)
def nbP (l : List (Int × Int)) : Bool := (List.range (l.length - 1)).all fun i => !(decide (sx l i = sx l (i + 1)) && decide (sy l i = sy l (i + 1)))
theorem nbP_yes {l : List (Int × Int)} (h : NbTo l (l.length - 1)) : nbP l = true := by
  unfold nbP
  rw [List.all_eq_true]
  intro i hi
  have := h i (List.mem_range.1 hi)
  unfold same at this
  by_cases h1 : sx l i = sx l (i + 1)
  · rw [decide_eq_true h1, decide_eq_false (fun h2 => this ⟨h1, h2⟩)]; rfl
  · rw [decide_eq_false h1]; rfl
theorem nbP_no {l : List (Int × Int)} {i : Nat} (hi : i < l.length - 1) (h : same l i (i + 1)) : nbP l = false := by
  cases e : nbP l
  · rfl
  · unfold nbP at e
    rw [List.all_eq_true] at e
    have := e i (List.mem_range.2 hi)
    obtain ⟨h1, h2⟩ := h
    rw [h1, h2] at this
    simp at this
/-- Corners and a number that are taken. -/
def polyG (l : List (Int × Int)) (n : Int) : Bool := okList l && inB 2 (l.length : Int) 8 && inB 1 n 12
def polyOk (l : List (Int × Int)) (n : Int) : Bool := polyG l n && nbP l
def polyL (l : List (Int × Int)) (n : Int) : List (Int × Int) := if polyOk l n then wayTo l n.toNat n.toNat else []

set_option maxHeartbeats 1000000 in
theorem poly_no (a : Option Addr) (cap : Nat) (l : List (Int × Int)) (hl : l.length ≤ 1048576) {w : World} (ha : PairsAt w a l) (n : Int) (hk : polyG l n = false) :
    Calls Try.prog 24 #[.slice a l.length cap, .int .i64 n] w fun e w' => e = .returned (.tuple #[.slice none 0 0, .bool false]) ∧ Below w.heap.size w w' := by
  have HS := Lib.hid (fun (W : World) (hb : Below w.heap.size w W) => areSpots_any a cap l hl (ha.below hb))
  unfold polyG at hk
  cases h1 : inB 2 (l.length : Int) 8 <;> cases h2 : okList l <;> cases h3 : inB 1 n 12
  all_goals first | (exfalso; rw [h1, h2, h3] at hk; cases hk; done) | clear hk
  all_goals
    have H1 := Lib.hid h1
    have H2 := Lib.hid h2
    have H3 := Lib.hid h3
    clear h1 h2 h3
    go_enter Try.func24, Try.ntmps24
    go_wp2_with (first | (go_at_call 35; (refine (inRange_any _ _ _ _).mono ?_; rw [H1.out]; rintro e w' ⟨rfl, rfl⟩)) | (go_at_call 45; (refine (HS.out _ (by repeat (first | exact Below.refl _ _ | assumption | refine Below.drew ?_ | refine below_drewN ?_ _ | refine Below.alloc ?_ (by first | omega | (simp; done) | (simp; omega)) _ | refine Below.setCell ?_ (by first | omega | (simp; done) | (simp; omega)) _ | refine Below.trans ?_ (Below.mono (by assumption) (by first | omega | (simp; done) | (simp; omega)))))).mono ?_; rw [H2.out]; rintro e w1 ⟨rfl, hb1⟩; have hs1 := hb1.size)) | (go_at_call 46; (refine (isPerformers_any _ _).mono ?_; rw [H3.out]; rintro e w' ⟨rfl, rfl⟩)))
    go_ret2
    exact ⟨rfl, (by repeat (first | exact Below.refl _ _ | assumption | refine Below.drew ?_ | refine below_drewN ?_ _ | refine Below.alloc ?_ (by first | omega | (simp; done) | (simp; omega)) _ | refine Below.setCell ?_ (by first | omega | (simp; done) | (simp; omega)) _ | refine Below.trans ?_ (Below.mono (by assumption) (by first | omega | (simp; done) | (simp; omega)))))⟩

set_option maxHeartbeats 4000000 in
theorem poly_yes (b off cap : Nat) (l : List (Int × Int)) (N : Nat) (hg : polyG l N = true) (hc : l.length ≤ cap) {w : World} (ha : PairsAt w (some ⟨b, off, none⟩) l) (X : List (Int × Int)) (bo : Bool) (hX : X = if nbP l then chIf (wayTo l N N) else []) (hbo : bo = (nbP l && chOk (wayTo l N N))) :
    Calls Try.prog 24 #[.slice (some ⟨b, off, none⟩) l.length cap, .int .i64 N] w fun e w' => ∃ v, e = .returned (.tuple #[v, .bool bo]) ∧ OwnPairs 24 w' w.heap.size v X ∧ Below w.heap.size w w' := by
  have HX := Lib.hid hX
  have HBO := Lib.hid hbo
  clear hX hbo
  unfold polyG at hg
  rw [Bool.and_eq_true, Bool.and_eq_true] at hg
  obtain ⟨⟨h2, h1⟩, h3⟩ := hg
  obtain ⟨g1, g2⟩ := inB_iff.1 h1
  obtain ⟨g3, g4⟩ := inB_iff.1 h3
  have hl : l.length ≤ 1048576 := by omega
  have HS := Lib.hid (fun (W : World) (hb : Below w.heap.size w W) => areSpots_any (some ⟨b, off, none⟩) cap l hl (ha.below hb))
  have HW := Lib.hid (fun (W : World) (hb : Below w.heap.size w W) => spotsAlong_any (some ⟨b, off, none⟩) cap l (okList_parts h2).1 (by omega) (by omega) N (by omega) (by omega) (ha.below hb))
  have hl12 : (wayTo l N N).length ≤ 1048576 := by rw [wayTo_length]; omega
  have HC := Lib.hid (fun W b v ho => formOf (w := W) (base := b) (v := v) hl12 ho)
  have HA := Lib.hid ha
  have H1 := Lib.hid h1
  have H2 := Lib.hid h2
  have H3 := Lib.hid h3
  clear h1 h2 h3 ha hl12
  have u1 : (1 : Int) ≤ (cap : Int) := by omega
  have u2 : (1 : Int) ≤ (l.length : Int) := by omega
  have u3 : 1 ≤ l.length := by omega
  have u4 : ¬ (cap = 1) := by omega
  have u5 : ¬ ((cap : Int) = 1) := by omega
  have u6 : 1 < cap := by omega
  go_enter Try.func24, Try.ntmps24
  go_wp2_with (first | (go_at_call 35; (refine (inRange_any _ _ _ _).mono ?_; rw [H1.out]; rintro e w' ⟨rfl, rfl⟩)) | (go_at_call 45; (refine (HS.out _ (by repeat (first | exact Below.refl _ _ | assumption | refine Below.drew ?_ | refine below_drewN ?_ _ | refine Below.alloc ?_ (by first | omega | (simp; done) | (simp; omega)) _ | refine Below.setCell ?_ (by first | omega | (simp; done) | (simp; omega)) _ | refine Below.trans ?_ (Below.mono (by assumption) (by first | omega | (simp; done) | (simp; omega)))))).mono ?_; rw [H2.out]; rintro e w1 ⟨rfl, hb1⟩; have hs1 := hb1.size)) | (go_at_call 46; (refine (isPerformers_any _ _).mono ?_; rw [H3.out]; rintro e w' ⟨rfl, rfl⟩)))
  have hbw : Below w.heap.size w w1 := (by repeat (first | exact Below.refl _ _ | assumption | refine Below.drew ?_ | refine below_drewN ?_ _ | refine Below.alloc ?_ (by first | omega | (simp; done) | (simp; omega)) _ | refine Below.setCell ?_ (by first | omega | (simp; done) | (simp; omega)) _ | refine Below.trans ?_ (Below.mono (by assumption) (by first | omega | (simp; done) | (simp; omega)))))
  clear hb1
  go_loopw [25] (fun i wr => ∃ (k : Nat), k ≤ l.length - 1 ∧ i = .int .i64 k ∧ Hid (NbTo l k) ∧ Below w.heap.size w wr) (fun i _ => l.length - (intOf i).toNat)
  case atStart => exact ⟨0, Nat.zero_le _, rfl, Lib.hid (fun i hi => absurd hi (Nat.not_lt_zero i)), hbw⟩
  case round =>
    obtain ⟨k, hk, rfl, HNB, hbr⟩ := hrel
    have hsr := hbr.size
    by_cases hlt : k < l.length - 1
    · obtain ⟨b1, off1, hb1, c0, c1⟩ := (HA.out.below hbr) k (by omega)
      obtain ⟨b2, off2, hb2, c2, c3⟩ := (HA.out.below hbr) (k + 1) (by omega)
      simp only [Option.some.injEq, Addr.mk.injEq] at hb1 hb2
      obtain ⟨hx1, hx2, _⟩ := hb1
      obtain ⟨hx3, hx4, _⟩ := hb2
      subst hx1 hx2 hx3 hx4
      have hbl : b < wr.heap.size := World.block_lt_of_cell? _ _ c0
      rw [show off + (k + 1) * 2 = off + 2 + k * 2 by omega] at c2 c3
      have i0 : (0 : Int) ≤ (k : Int) := by omega
      have i1 : (k : Int) < ((l.length - 1 : Nat) : Int) := by omega
      have i2 : (k : Int) < (l.length : Int) := by omega
      have n6 : ¬ b = wr.heap.size := by omega
      have n7 : ¬ wr.heap.size = b := by omega
      by_cases hs : same l k (k + 1)
      · have E0 := Lib.hid (nbP_no hlt hs)
        rw [← hs.1] at c2
        rw [← hs.2] at c3
        clear hs
        go_wp2
        go_quiet (fail)
        go_wp2
        go_ret2
        exact ⟨_, by rw [HBO.out, E0.out]; rfl, by rw [HX.out, E0.out]; exact own_nil _ _ _, (by repeat (first | exact Below.refl _ _ | assumption | refine Below.drew ?_ | refine below_drewN ?_ _ | refine Below.alloc ?_ (by first | omega | (simp; done) | (simp; omega)) _ | refine Below.setCell ?_ (by first | omega | (simp; done) | (simp; omega)) _ | refine Below.trans ?_ (Below.mono (by assumption) (by first | omega | (simp; done) | (simp; omega)))))⟩
      · have HNB2 := Lib.hid (ext_lt (p := fun j => ¬ same l j (j + 1)) HNB.out hs)
        have hb2 : (sx l (k + 1) == sx l k) = false ∨ ((sx l (k + 1) == sx l k) = true ∧ (sy l (k + 1) == sy l k) = false) := by
          by_cases e : sx l (k + 1) = sx l k
          · refine .inr ⟨by simpa using e, ?_⟩
            have : sy l (k + 1) ≠ sy l k := fun e2 => hs ⟨e.symm, e2.symm⟩
            simpa using this
          · exact .inl (by simpa using e)
        clear hs
        rcases hb2 with q1 | ⟨q1, q2⟩
        all_goals
          go_wp2
          go_quiet (fail)
          go_wp2
          go_roundw
          case rel => exact ⟨k + 1, by omega, by go_num, HNB2, (by repeat (first | exact Below.refl _ _ | assumption | refine Below.drew ?_ | refine below_drewN ?_ _ | refine Below.alloc ?_ (by first | omega | (simp; done) | (simp; omega)) _ | refine Below.setCell ?_ (by first | omega | (simp; done) | (simp; omega)) _ | refine Below.trans ?_ (Below.mono (by assumption) (by first | omega | (simp; done) | (simp; omega)))))⟩
          case measure => simp [intOf]; omega
    · obtain rfl : k = l.length - 1 := by omega
      have E0 := Lib.hid (nbP_yes HNB.out)
      go_wp2_with (first | (go_at_call 48; (refine (HW.out _ (by repeat (first | exact Below.refl _ _ | assumption | refine Below.drew ?_ | refine below_drewN ?_ _ | refine Below.alloc ?_ (by first | omega | (simp; done) | (simp; omega)) _ | refine Below.setCell ?_ (by first | omega | (simp; done) | (simp; omega)) _ | refine Below.trans ?_ (Below.mono (by assumption) (by first | omega | (simp; done) | (simp; omega)))))).mono ?_; rintro e w2 ⟨v2, rfl, ho2, hb2⟩; have HO2 := Lib.hid ho2; clear ho2; have hs2 := hb2.size)) | (go_at_call 47; (refine (HC.out _ _ _ HO2.out).mono ?_; rintro e w4 ⟨v4, rfl, ho4, hb4⟩; have hs4 := hb4.size)))
      go_ret2
      exact ⟨_, by rw [HBO.out, E0.out]; rfl, by rw [HX.out, E0.out]; exact own_mono ho4 (by omega), (by repeat (first | exact Below.refl _ _ | assumption | refine Below.drew ?_ | refine below_drewN ?_ _ | refine Below.alloc ?_ (by first | omega | (simp; done) | (simp; omega)) _ | refine Below.setCell ?_ (by first | omega | (simp; done) | (simp; omega)) _ | refine Below.trans ?_ (Below.mono (by assumption) (by first | omega | (simp; done) | (simp; omega)))))⟩
theorem poly_any (a : Option Addr) (cap : Nat) (l : List (Int × Int)) (hl : l.length ≤ 1048576) {w : World} (ha : PairsAt w a l) (hc : l.length ≤ cap) (n : Int) :
    Calls Try.prog 24 #[.slice a l.length cap, .int .i64 n] w fun e w' => ∃ v, e = .returned (.tuple #[v, .bool (polyOk l n && chOk (polyL l n))]) ∧ OwnPairs 24 w' w.heap.size v (chIf (polyL l n)) ∧ Below w.heap.size w w' := by
  cases hk : polyG l n
  · have e1 : polyOk l n = false := by unfold polyOk; rw [hk]; rfl
    have e : polyL l n = [] := by unfold polyL; rw [e1]; rfl
    rw [e, e1, chIf_no (show chOk [] = false from rfl)]
    exact (poly_no a cap l hl ha n hk).mono fun e w' ⟨he, hb⟩ => ⟨_, he, own_nil _ _ _, hb⟩
  · have hk2 := hk
    unfold polyG at hk2
    rw [Bool.and_eq_true, Bool.and_eq_true, inB_iff, inB_iff] at hk2
    obtain ⟨⟨_, g1, _⟩, g3, g4⟩ := hk2
    obtain ⟨b, off, rfl⟩ := ha.some_of (by omega)
    have hn : ((n.toNat : Nat) : Int) = n := Int.toNat_of_nonneg (by omega)
    have e1 : polyOk l n = nbP l := by unfold polyOk; rw [hk]; rfl
    have h := poly_yes b off cap l n.toNat (by rw [hn]; exact hk) hc ha _ _ rfl rfl
    rw [hn] at h
    rw [e1]
    cases hnb : nbP l
    · have e : polyL l n = [] := by unfold polyL; rw [e1, hnb]; rfl
      rw [e, chIf_no (show chOk [] = false from rfl)]
      rw [hnb] at h
      exact h
    · have e : polyL l n = wayTo l n.toNat n.toNat := by unfold polyL; rw [e1, hnb]; rfl
      rw [e]
      rw [hnb] at h
      exact h

end Go.Proofs.Ytppnomflmacpkaa
