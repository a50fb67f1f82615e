/- The other side's splitting of a text: a list of texts of its own. No conditions but those written in each theorem. -/
import Derived.Test.YtagfleajkalgiaaNum
import Derived.Deep.RegionHeld3
import Derived.Deep.DrawnRows
import Derived.IntWalk
namespace Go.Proofs.Ytagfleajkalgiaa
open Go.RowKit


attribute [local go_sem ↓] Go.wp_at_zero Go.wp_at_succ

/-- The slice v owns these texts, in a block from base on. -/
abbrev OwnStrs (w : World) (base : Nat) (v : Value) (xs : List (List UInt8)) : Prop := w.ownsRow base 9 1 v xs.length (xs.map fun x => Value.string (bs x))
theorem own_formS {w : World} {base : Nat} {v : Value} {xs : List (List UInt8)} (h : OwnStrs w base v xs) :
    (v = .slice none 0 0 ∧ xs = []) ∨ ∃ g cap, v = .slice (some ⟨g, 0, none⟩) xs.length cap ∧ base ≤ g ∧ g < w.heap.size := by
  have hl := World.ownsRow.lt h
  rcases h.2 with ⟨rfl, h0⟩ | ⟨g, cap, cur, rfl, hb, hh, _⟩
  · exact .inl ⟨rfl, List.length_eq_zero_iff.1 h0⟩
  · exact .inr ⟨g, cap, rfl, hb, (hl g rfl).2⟩
theorem own_strs {w : World} {base g cap : Nat} {xs : List (List UInt8)} (h : OwnStrs w base (.slice (some ⟨g, 0, none⟩) xs.length cap) xs) (i : Nat) (hi : i < xs.length) : w.cell? ⟨g, i, none⟩ = some (.string (bs (xs[i]'hi))) := by
  have := World.ownsRow.cellAt h i (by omega)
  rw [this]
  simp [hi]
theorem Try.infoStr : (Try.prog.info? 9).map (fun i => (i.zero, i.size, i.bytes)) = some (some (.string ⟨#[]⟩), 1, 16) := by kernel_rfl
theorem own_stepS {w w1 w2 : World} {nb : Nat} {v v' : Value} {xs : List (List UInt8)} {x : List UInt8} (hb : Below nb w w1) (hB : nb ≤ w1.heap.size) (hown : OwnStrs w1 nb v xs)
    (hown' : w2.ownsRow nb 9 1 v' (xs.length + 1) ((xs.map fun x => Value.string (bs x)) ++ [.string (bs x)])) (hg : (w1.alloc (.cells #[.string (bs x)] 9)).grownBy w2 v.ownBlock) :
    OwnStrs w2 nb v' (xs ++ [x]) ∧ Below nb w w2 := by
  have hlt := World.ownsRow.lt hown
  exact ⟨by simpa [OwnStrs] using hown', (hb.alloc (by omega) _).grown hg (by simp; omega) (fun k hk => (hlt k hk).1)⟩
/-- What is left to split, from place k on, the present piece begun at place fr. -/
def left (b : UInt8) (l : List UInt8) (fr k : Nat) : List (List UInt8) := spl b ((l.drop fr).take (k - fr)) (l.drop k)
theorem left_zero (b : UInt8) (l : List UInt8) : left b l 0 0 = splitL b l := by unfold left splitL; simp
theorem take_more {l : List UInt8} {fr k : Nat} (hf : fr ≤ k) (h : k < l.length) : (l.drop fr).take (k + 1 - fr) = (l.drop fr).take (k - fr) ++ [l[k]'h] := by
  have e : k + 1 - fr = (k - fr) + 1 := by omega
  rw [e, List.take_add_one, List.getElem?_drop, show fr + (k - fr) = k by omega, List.getElem?_eq_getElem h]
  rfl
theorem left_hit {b : UInt8} {l : List UInt8} {fr k : Nat} (h : k < l.length) (he : l[k]'h = b) : left b l fr k = (l.drop fr).take (k - fr) :: left b l (k + 1) (k + 1) := by
  unfold left
  rw [List.drop_eq_getElem_cons h, spl, if_pos he]
  simp
theorem left_miss {b : UInt8} {l : List UInt8} {fr k : Nat} (hf : fr ≤ k) (h : k < l.length) (he : l[k]'h ≠ b) : left b l fr k = left b l fr (k + 1) := by
  unfold left
  rw [List.drop_eq_getElem_cons h, spl, if_neg he, take_more hf h]
theorem left_end {b : UInt8} {l : List UInt8} {fr : Nat} : left b l fr l.length = [l.drop fr] := by
  unfold left
  rw [List.drop_length, spl, List.take_of_length_le (by rw [List.length_drop]; exact Nat.le_refl _)]

set_option maxHeartbeats 2000000 in
theorem l1Split_any (l : List UInt8) (b : UInt8) (c : Int) (hc : c = (b.toNat : Int)) (hl : l.length ≤ 1048576) (w : World) :
    Calls Try.prog 51 #[.string (bs l), .int .u8 c] w fun e w' => ∃ v, e = .returned v ∧ OwnStrs w' w.heap.size v (splitL b l) ∧ Below w.heap.size w w' := by
  obtain ⟨j0, hi, hz0, hz1, hz2⟩ := info_parts Try.infoStr
  have HI := Lib.hid hi
  have HZ0 := Lib.hid hz0
  have HZ1 := Lib.hid hz1
  have HZ2 := Lib.hid hz2
  clear hi hz0 hz1 hz2
  have hz := bs_size l
  go_enter Try.func51, Try.ntmps51
  go_wp2
  go_loopw [5, 6, 7] (fun v u i wr => ∃ (k fr : Nat) (acc : List (List UInt8)), k ≤ l.length ∧ fr ≤ k ∧ i = .int .i64 k ∧ u = .int .i64 fr ∧ acc.length ≤ k ∧ OwnStrs wr w.heap.size v acc ∧ Below w.heap.size w wr ∧ Hid (acc ++ left b l fr k = splitL b l)) (fun _ _ i _ => l.length - (intOf i).toNat)
  case atStart => exact ⟨0, 0, [], Nat.zero_le _, Nat.le_refl _, rfl, rfl, Nat.le_refl _, World.ownsRow_nil _ _ _ _, Below.refl _ _, Lib.hid (left_zero b l)⟩
  case round =>
    obtain ⟨k, fr, acc, hk, hfr, rfl, rfl, hal, hown, hbr, hacc⟩ := hrel
    have hsr := hbr.size
    by_cases hlt : k < l.length
    · have hlt' : k < (bs l).size := hlt
      have i0 : (0 : Int) ≤ (k : Int) := by omega
      have i1 : (k : Int) < (l.length : Int) := by omega
      have hget : ∀ h, (bs l)[k]'h = l[k]'hlt := fun h => bs_get h hlt
      by_cases he : l[k]'hlt = b
      · have hch : ((((l[k]'hlt).toNat : Nat) : Int) == c) = true := by rw [he, hc]; exact beq_self_eq_true _
        have hnew := left_hit (fr := fr) hlt he
        have HN := Lib.hid hnew
        clear hnew he hc
        have hex := bs_extract l fr k
        obtain ⟨x, hx⟩ : ∃ x, x = (l.drop fr).take (k - fr) := ⟨_, rfl⟩
        rw [← hx] at hex HN
        clear hx
        have f0 : (0 : Int) ≤ (fr : Int) := by omega
        have f1 : (fr : Int) ≤ (k : Int) := by omega
        have f2 : (k : Int) ≤ (l.length : Int) := by omega
        go_wp2_with (at_builtin; refine wpList_append_own _ rfl _ _ 63 rfl (w.heap.size) 9 j0 (.string ⟨#[]⟩) 1 16 Try.underlying63 HI.out HZ0.out HZ1.out HZ2.out rfl (by decide) _ _ _ rfl (hown.alloc _) ⟨wr.heap.size, 0, none⟩ 1 1 [.string (bs x)] rfl rfl ?c1 ?c2 ?c3 ?c4 ?c5 ?_)
        case c1 =>
          intro j u hj
          match j, hj with
          | 0, hj => simp at hj; subst hj; simp [Addr.add]
        case c2 => intro u hu; simp at hu; subst hu; rfl
        case c3 => unfold maxLen; simp; omega
        case c4 => first | omega | (simp; omega)
        case c5 => first | omega | (simp; omega)
        intro v' w2 hown' hgrow _
        obtain ⟨ho2, hb2⟩ := own_stepS hbr hsr hown hown' hgrow
        clear hown' hgrow hown hbr
        go_wp2
        go_roundw
        case rel => exact ⟨k + 1, k + 1, acc ++ [x], by omega, Nat.le_refl _, by go_num, by go_num, by simp; omega, ho2, hb2, Lib.hid (by rw [← hacc.out, HN.out]; simp)⟩
        case measure => simp [intOf]; omega
      · have hch : ((((l[k]'hlt).toNat : Nat) : Int) == c) = false := by
          rw [beq_eq_false_iff_ne, hc]
          intro e
          exact he (UInt8.toNat_inj.1 (by omega))
        have hnew := left_miss hfr hlt he
        have HN := Lib.hid hnew
        clear hnew he hc
        go_wp2
        go_roundw
        case rel => exact ⟨k + 1, fr, acc, by omega, by omega, by go_num, rfl, by omega, hown, hbr, Lib.hid (by rw [← hacc.out, HN.out])⟩
        case measure => simp [intOf]; omega
    · obtain rfl : k = l.length := by omega
      have hex : (bs l).extract fr (bs l).size = bs (l.drop fr) := by
        rw [bs_extract, bs_size, List.take_of_length_le (by rw [List.length_drop]; exact Nat.le_refl _)]
      obtain ⟨x, hx⟩ : ∃ x, x = l.drop fr := ⟨_, rfl⟩
      have hend := left_end (b := b) (l := l) (fr := fr)
      rw [← hx] at hex hend
      have HE := Lib.hid hend
      rw [hz] at hex
      clear hend hc hx
      have f0 : (0 : Int) ≤ (fr : Int) := by omega
      have f1 : (fr : Int) ≤ (l.length : Int) := by omega
      go_wp2_with (at_builtin; refine wpList_append_own _ rfl _ _ 63 rfl (w.heap.size) 9 j0 (.string ⟨#[]⟩) 1 16 Try.underlying63 HI.out HZ0.out HZ1.out HZ2.out rfl (by decide) _ _ _ rfl (hown.alloc _) ⟨wr.heap.size, 0, none⟩ 1 1 [.string (bs x)] rfl rfl ?c1 ?c2 ?c3 ?c4 ?c5 ?_)
      case c1 =>
        intro j u hj
        match j, hj with
        | 0, hj => simp at hj; subst hj; simp [Addr.add]
      case c2 => intro u hu; simp at hu; subst hu; rfl
      case c3 => unfold maxLen; simp; omega
      case c4 => first | omega | (simp; omega)
      case c5 => first | omega | (simp; omega)
      intro v' w2 hown' hgrow _
      obtain ⟨ho2, hb2⟩ := own_stepS hbr hsr hown hown' hgrow
      clear hown' hgrow hown hbr
      go_wp2
      go_ret
      exact ⟨_, rfl, by rw [← hacc.out, HE.out]; exact ho2, hb2⟩

theorem l1Split_form (l : List UInt8) (b : UInt8) (c : Int) (hc : c = (b.toNat : Int)) (hl : l.length ≤ 1048576) {L : List (List UInt8)} (hL : splitL b l = L) {n : Nat} (hn : L.length = n) (w : World) :
    Calls Try.prog 51 #[.string (bs l), .int .u8 c] w fun e w' => ∃ g cap, e = .returned (.slice (some ⟨g, 0, none⟩) n cap) ∧ w.heap.size ≤ g ∧ g < w'.heap.size ∧ (∀ i (h : i < L.length), w'.cell? ⟨g, i, none⟩ = some (.string (bs (L[i]'h)))) ∧ Below w.heap.size w w' := by
  refine (l1Split_any l b c hc hl w).mono ?_
  rintro e w' ⟨v, rfl, hown, hb⟩
  rw [hL] at hown
  subst hn
  rcases own_formS hown with ⟨_, h0⟩ | ⟨g, cap, rfl, hg, hlt⟩
  · exfalso
    have := (splitL_length b l).1
    rw [hL, h0] at this
    simp at this
  · exact ⟨g, cap, rfl, hg, hlt, fun i hi => own_strs hown i hi, hb⟩

end Go.Proofs.Ytagfleajkalgiaa
