/- The program's reading of a number: a text of digits, no zero ahead, at most so great. No conditions but those written in each theorem. -/
import Derived.Test.YtagfleajkalgiaaNum
import Derived.Deep.RegionHeld3
import Derived.Deep.DrawnRows
import Derived.Deep.LoopGhost
import Derived.Lib.OthersKept
import Derived.Laws.RangeAny
import Derived.IntWalk
namespace Go.Proofs.Ytagfleajkalgiaa
open Go.RowKit


attribute [local go_sem ↓] Go.wp_at_zero Go.wp_at_succ

theorem iterPos_of {w : World} {k : Nat} {s : ByteArray} {p : Nat} (h : w.heap[k]? = some (.stringIter s p)) : w.iterPos k = p := by simp [World.iterPos, h]
/-- What the range hands over at a digit, and at any other sign. -/
theorem dec_digit {l : List UInt8} {i : Nat} (h2 : i < l.length) (hd : digB (l[i]'h2) = true) : Utf8.decode (bs l) i = ((l[i]'h2).toNat, 1) := by
  have h : i < (bs l).size := h2
  have := digB_iff.1 hd
  exact decode_ascii (bs l) i h (by rw [bs_get h h2]; omega)
theorem dec_other {l : List UInt8} {i : Nat} (h2 : i < l.length) (hd : digB (l[i]'h2) = false) : (Utf8.decode (bs l) i).1 < 48 ∨ 57 < (Utf8.decode (bs l) i).1 := by
  have h : i < (bs l).size := h2
  have hn : ¬ (48 ≤ (l[i]'h2).toNat ∧ (l[i]'h2).toNat ≤ 57) := by
    intro e
    rw [digB_iff.2 e] at hd
    cases hd
  by_cases ha : (l[i]'h2).toNat < 128
  · rw [decode_ascii (bs l) i h (by rw [bs_get h h2]; exact ha), bs_get h h2]
    show (l[i]'h2).toNat < 48 ∨ 57 < (l[i]'h2).toNat
    omega
  · right
    have := (decode_high (bs l) i h (by rw [bs_get h h2]; omega)).1
    omega
def valN (l : List UInt8) (most : Nat) : Int := if okN l most = true then (numL l : Int) else 0
theorem valN_yes {l : List UInt8} {most : Nat} (h : okN l most = true) : valN l most = numL l := by unfold valN; rw [if_pos h]
theorem valN_no {l : List UInt8} {most : Nat} (h : okN l most = false) : valN l most = 0 := by unfold valN; rw [h]; rfl
theorem okN_other {l : List UInt8} {k most : Nat} (h : k < l.length) (h2 : digB (l[k]'h) = false) : okN l most = false := by
  cases e : okN l most
  · rfl
  · exact absurd (List.getElem_mem h) (can_not (okN_iff.1 e).1 h2)
theorem okN_great {l : List UInt8} {k most : Nat} (h : most < numL (l.take k)) : okN l most = false := by
  cases e : okN l most
  · rfl
  · have h1 := (okN_iff.1 e).2
    have h2 : numL l = numF (numL (l.take k)) (l.drop k) := by
      unfold numL
      rw [← numF_append, List.take_append_drop]
    have := numF_le (numL (l.take k)) (l.drop k)
    omega


set_option maxHeartbeats 1000000 in
theorem parseNumber_loop (l : List UInt8) (most : Nat) (hm : most ≤ 999) (hl : l.length ≤ 1048576) (hne : l ≠ []) (h0 : l.length = 1 ∨ l[0]? ≠ some 48) (w : World) :
    Calls Try.prog 57 #[.string (bs l), .int .i64 most] w fun e w' => e = .returned (.tuple #[.int .i64 (valN l most), .bool (okN l most)]) ∧ Below w.heap.size w w' := by
  have hpos : 0 < l.length := List.length_pos_iff.2 hne
  have hz := bs_size l
  have e1 := bs_no hne
  have e2 := bs_noB hne
  have e3 : ¬ 1 < (l.length : Int) ∨ 1 < (l.length : Int) ∧ ∀ h : 0 < (bs l).size, ((((bs l)[0]'h).toNat : Int) == 48) = false := by
    rcases h0 with h0 | h0
    · left; omega
    · by_cases h1 : l.length = 1
      · left; omega
      refine .inr ⟨by omega, ?_⟩
      intro h
      rw [beq_eq_false_iff_ne]
      intro e
      apply h0
      rw [List.getElem?_eq_getElem hpos]
      have e' : (l[0]'hpos).toNat = 48 := by
        have := bs_get h hpos
        rw [this] at e
        omega
      exact congrArg some (UInt8.toNat_inj.1 (by simpa using e'))
  have hcan : l.all digB = true → canL l = true := fun h => canL_iff.2 ⟨h, hpos, h0⟩
  have Hcan := Lib.hid hcan
  clear hcan h0
  rcases e3 with e3 | ⟨e3, e4⟩
  all_goals
    go_enter Try.func57, Try.ntmps57
    go_wp2
    go_loopw [6, 8] (fun nv _ wr => ∃ pos : Nat, pos ≤ l.length ∧ nv = .int .i64 (numL (l.take pos)) ∧ numL (l.take pos) ≤ most ∧ (l.take pos).all digB = true ∧ wr.heap[w.heap.size]? = some (.stringIter (bs l) pos) ∧ Below w.heap.size w wr) (fun _ _ wr => l.length - wr.iterPos w.heap.size)
    case atStart => exact ⟨0, Nat.zero_le _, rfl, Nat.zero_le _, rfl, World.iter_heap w (bs l) 0, (Below.refl _ _).alloc (Nat.le_refl _) _⟩
    case round =>
      obtain ⟨pos, hps, rfl, hnm, hda, hit, hbw⟩ := hrel
      have hsr := hbw.size
      have hpos0 := iterPos_of hit
      have hBlt := (Array.getElem?_eq_some_iff.1 hit).1
      by_cases hp : pos < l.length
      · have hp' : pos < (bs l).size := hp
        have hnx : ∀ ty, (Instr.next (.pointer (some ⟨w.heap.size, 0, none⟩)) true ty).run Try.prog wr = _ := fun ty => Lib.run_next_any_at wr w.heap.size (bs l) pos ty hit hp'
        cases hdg : digB (l[pos]'hp)
        · have hno := okN_other (most := most) hp hdg
          have hv := valN_no hno
          have hdc := dec_other hp hdg
          have hbw2 := Lib.below_iterAt hbw (k := w.heap.size) (Nat.le_refl _) (bs l) (pos + (Utf8.decode (bs l) pos).2)
          rcases hdc with hdc | hdc
          all_goals
            go_wp2
            go_ret2
            first | exact ⟨rfl, hbw2⟩ | exact ⟨by rw [hv, hno]; rfl, hbw2⟩
        · have hdc := dec_digit hp hdg
          have hdb := digB_iff.1 hdg
          simp only [hdc] at hnx
          have hbw2 := Lib.below_iterAt hbw (k := w.heap.size) (Nat.le_refl _) (bs l) (pos + 1)
          have hit2 := Lib.iterAt_heap wr w.heap.size (bs l) pos (pos + 1) hit
          have hnt := num_take hp
          have hat := all_take hp hda hdg
          obtain ⟨c, hc⟩ : ∃ c, c = (l[pos]'hp).toNat := ⟨_, rfl⟩
          rw [← hc] at hnx hdb hnt
          obtain ⟨n, hn⟩ : ∃ n, n = numL (l.take pos) := ⟨_, rfl⟩
          rw [← hn] at hnt hnm ⊢
          obtain ⟨hd1, hd2⟩ := hdb
          clear hda hit hbw hdc hdg hc hn
          have v1 : IntKind.i64.wrap ((n : Int) * 10) = (n : Int) * 10 := IntWalk.i64_in _ (by omega)
          have v2 : IntKind.i32.wrap ((c : Int) - 48) = (c : Int) - 48 := by rw [IntKind.wrap_i32]; omega
          have v3 : IntKind.i64.wrap ((c : Int) - 48) = (c : Int) - 48 := IntWalk.i64_in _ (by omega)
          have v4 : IntKind.i64.wrap ((n : Int) * 10 + ((c : Int) - 48)) = (n : Int) * 10 + ((c : Int) - 48) := IntWalk.i64_in _ (by omega)
          have ex : (n : Int) * 10 + ((c : Int) - 48) = ((10 * n + (c - 48) : Nat) : Int) := by omega
          by_cases hbig : 10 * n + (c - 48) ≤ most
          · have hb1 : ¬ (most : Int) < (n : Int) * 10 + ((c : Int) - 48) := by omega
            go_wp2
            go_roundw
            case rel => exact ⟨pos + 1, by omega, by rw [hnt]; exact congrArg (Value.int .i64) (by omega), by omega, hat, hit2, hbw2⟩
            case measure =>
              rw [iterPos_of hit2, hpos0]
              omega
          · have hb1 : (most : Int) < (n : Int) * 10 + ((c : Int) - 48) := by omega
            have hno := okN_great (l := l) (k := pos + 1) (most := most) (by omega)
            have hv := valN_no hno
            go_wp2
            go_ret2
            first | exact ⟨rfl, hbw2⟩ | exact ⟨by rw [hv, hno]; rfl, hbw2⟩
      · have hp' : ¬ pos < (bs l).size := hp
        have hnx : ∀ ty, (Instr.next (.pointer (some ⟨w.heap.size, 0, none⟩)) true ty).run Try.prog wr = _ := fun ty => Lib.run_next_end_at wr w.heap.size (bs l) pos ty hit hp'
        obtain rfl : pos = l.length := by omega
        rw [List.take_length] at hnm hda ⊢
        have hok := okN_iff.2 ⟨Hcan.out hda, hnm⟩
        have hv := valN_yes hok
        go_wp2
        go_ret2
        first | exact ⟨rfl, hbw⟩ | exact ⟨by rw [hv, hok]; rfl, hbw⟩

theorem okN_nil (most : Nat) : okN [] most = false := rfl
theorem okN_zero {l : List UInt8} {most : Nat} (h1 : l.length ≠ 1) (h0 : l[0]? = some 48) : okN l most = false := by
  cases e : okN l most
  · rfl
  · rcases (canL_iff.1 (okN_iff.1 e).1).2.2 with h | h
    · exact absurd h h1
    · exact absurd h0 h
set_option maxHeartbeats 100000 in
theorem parseNumber_nil (most : Nat) (w : World) :
    Calls Try.prog 57 #[.string (bs []), .int .i64 most] w fun e w' => e = .returned (.tuple #[.int .i64 0, .bool false]) ∧ Below w.heap.size w w' := by
  have e1 : (bs []).toList = [] := bs_toL []
  go_enter Try.func57, Try.ntmps57
  go_wp2
  go_ret2
  exact ⟨rfl, (by repeat (first | exact Below.refl _ _ | assumption | refine Below.drew ?_ | refine below_drewN ?_ _ | refine Below.alloc ?_ (by first | omega | (simp; done) | (simp; omega)) _ | refine Below.setCell ?_ (by first | omega | (simp; done) | (simp; omega)) _ | refine Below.trans ?_ (Below.mono (by assumption) (by first | omega | (simp; done) | (simp; omega)))))⟩
set_option maxHeartbeats 100000 in
theorem parseNumber_zero (l : List UInt8) (most : Nat) (h1 : 1 < l.length) (h0 : l[0]? = some 48) (hl : l.length ≤ 1048576) (w : World) :
    Calls Try.prog 57 #[.string (bs l), .int .i64 most] w fun e w' => e = .returned (.tuple #[.int .i64 0, .bool false]) ∧ Below w.heap.size w w' := by
  have hpos : 0 < l.length := by omega
  have hne : l ≠ [] := List.length_pos_iff.1 hpos
  have hz := bs_size l
  have e1 := bs_no hne
  have e2 := bs_noB hne
  have e3 : 1 < (l.length : Int) := by omega
  have e4 : ∀ h : 0 < (bs l).size, ((((bs l)[0]'h).toNat : Int) == 48) = true := by
    intro h
    rw [List.getElem?_eq_getElem hpos] at h0
    have := Option.some.inj h0
    rw [bs_get h hpos, this]
    rfl
  clear h0
  go_enter Try.func57, Try.ntmps57
  go_wp2
  go_ret2
  exact ⟨rfl, (by repeat (first | exact Below.refl _ _ | assumption | refine Below.drew ?_ | refine below_drewN ?_ _ | refine Below.alloc ?_ (by first | omega | (simp; done) | (simp; omega)) _ | refine Below.setCell ?_ (by first | omega | (simp; done) | (simp; omega)) _ | refine Below.trans ?_ (Below.mono (by assumption) (by first | omega | (simp; done) | (simp; omega)))))⟩
theorem parseNumber_any (l : List UInt8) (most : Nat) (hm : most ≤ 999) (hl : l.length ≤ 1048576) (w : World) :
    Calls Try.prog 57 #[.string (bs l), .int .i64 most] w fun e w' => e = .returned (.tuple #[.int .i64 (valN l most), .bool (okN l most)]) ∧ Below w.heap.size w w' := by
  by_cases hne : l = []
  · subst hne
    exact parseNumber_nil most w
  by_cases h0 : l.length = 1 ∨ l[0]? ≠ some 48
  · exact parseNumber_loop l most hm hl hne h0 w
  · have hpos : 0 < l.length := List.length_pos_iff.2 hne
    have h1 : l.length ≠ 1 := fun e => h0 (Or.inl e)
    have h2 : l[0]? = some 48 := by
      by_cases e : l[0]? = some 48
      · exact e
      · exact absurd (Or.inr e) h0
    have hno := okN_zero (most := most) h1 h2
    rw [valN_no hno, hno]
    exact parseNumber_zero l most (by omega) h2 hl w

end Go.Proofs.Ytagfleajkalgiaa
