/- The pairs of numbers below n, as the program makes them. Conditions: those written in each theorem. -/
import Derived.Test.YtmflgcikclikeaaPrs
import Derived.Test.YtmflgcikclikeaaMat
import Derived.Deep.RegionHeld3
import Derived.Deep.DrawnRows
import Derived.IntWalk
import Derived.StillTailTactics
import Derived.Deep.DeepCutAuto
import Derived.Deep.LoopGhost
import Derived.OwnWalk
namespace Go.Proofs.Ytmflgcikclikeaa
open Go.RowKit


attribute [local go_sem ↓] Go.wp_at_zero Go.wp_at_succ

/-- Pairs as lists of two. -/
def prL (ps : List (Nat × Nat)) : List (List Int) := ps.map fun p => [(p.1 : Int), (p.2 : Int)]
theorem prow_len (i : Nat) : ∀ k, (prow i k).length ≤ k
  | 0 => Nat.le_refl _
  | k + 1 => by
    have := prow_len i k
    show (if _ then _ else _ : List (Nat × Nat)).length ≤ _
    split <;> (try simp) <;> omega
theorem pall_len (n : Nat) : ∀ i, (pall n i).length ≤ i * n
  | 0 => by rw [Nat.zero_mul]; exact Nat.le_refl _
  | i + 1 => by
    have h1 := pall_len n i
    have h2 := prow_len i n
    show (pall n i ++ prow i n).length ≤ _
    rw [List.length_append, Nat.succ_mul]
    omega
theorem rows_len {Z : List (Value × List Int)} {ps : List (Nat × Nat)} (h : rowsL Z = prL ps) : Z.length = ps.length := by
  have := congrArg List.length h
  simpa [rowsL, prL] using this
theorem rows_two {Z : List (Value × List Int)} {ps : List (Nat × Nat)} (h : rowsL Z = prL ps) : ∀ z ∈ Z, z.2.length = 2 := by
  intro z hz
  have h1 : z.2 ∈ rowsL Z := List.mem_map.2 ⟨z, hz, rfl⟩
  rw [h] at h1
  obtain ⟨p, _, hp⟩ := List.mem_map.1 h1
  rw [← hp]
  rfl

set_option maxRecDepth 100000 in
set_option maxHeartbeats 4000000 in
theorem pairsOf_any (n : Nat) (hn : n ≤ 12) (w : World) :
    Calls Try.prog 26 #[.int .i64 (n : Int)] w fun e w' => ∃ v, e = .returned v ∧ (∃ Z, OwnZ w' w.heap.size v Z ∧ rowsL Z = prL (allP2 n)) ∧ Below w.heap.size w w' := by
  obtain ⟨q1, q2, q3, q4, q5, q6, q7⟩ := nadd
  obtain ⟨q0, hi, hz0, hz1, hz2⟩ := info_parts Try.infoInts
  have HI := Lib.hid hi
  have HZ0 := Lib.hid hz0
  have HZ1 := Lib.hid hz1
  have HZ2 := Lib.hid hz2
  clear hi hz0 hz1 hz2
  go_enter Try.func26, Try.ntmps26
  go_wp2
  go_loopw [3, 7] (fun v i wr => ∃ (k : Nat), k ≤ n ∧ i = .int .i64 (k : Int) ∧ Hid (∃ Z, OwnZ wr w.heap.size v Z ∧ rowsL Z = prL (pall n k)) ∧ Below w.heap.size w wr) (fun _ i _ => n - (intOf i).toNat)
  case atStart => exact ⟨0, Nat.zero_le _, rfl, Lib.hid ⟨[], OwnZ.nil _ _, rfl⟩, Below.refl _ _⟩
  case round =>
    obtain ⟨k, hk, rfl, HZ, hbr⟩ := hrel
    obtain ⟨wo, rfl⟩ : ∃ wo, wo = wr := ⟨_, rfl⟩
    by_cases hlt : k < n
    · have i0 : (0 : Int) ≤ (k : Int) := by omega
      have i1 : (k : Int) < (n : Int) := by omega
      have i3 : IntKind.i64.wrap ((k : Int) + 1) = (k : Int) + 1 := IntWalk.i64_in _ (by omega)
      have HZ' := Lib.hid (show ∃ Z, OwnZ wo w.heap.size u3 Z ∧ rowsL Z = prL (pall n k ++ prow k (k + 1)) by rw [prow_le (Nat.le_refl _), List.append_nil]; exact HZ.out)
      clear HZ
      go_wp2
      go_loopw [3, 5] (fun v i wr => ∃ (j : Nat), k < j ∧ j ≤ n ∧ i = .int .i64 (j : Int) ∧ Hid (∃ Z, OwnZ wr w.heap.size v Z ∧ rowsL Z = prL (pall n k ++ prow k j)) ∧ Below w.heap.size w wr) (fun _ i _ => n - (intOf i).toNat)
      case atStart => exact ⟨k + 1, by omega, by omega, by go_num, HZ', hbr⟩
      case round =>
        clear HZ' hbr
        obtain ⟨j, hkj, hj, rfl, HZ, hbi⟩ := hrel
        obtain ⟨wi, rfl⟩ : ∃ wi, wi = wr := ⟨_, rfl⟩
        have hsi := hbi.size
        by_cases hlj : j < n
        · obtain ⟨Z, how, hrows⟩ := HZ.out
          have HOW := Lib.hid how
          have hzl := rows_len hrows
          rw [List.length_append] at hzl
          have hl1 := pall_len n k
          have hl2 := prow_len k j
          have hl3 : k * n ≤ 12 * 12 := Nat.mul_le_mul (by omega) hn
          have hzb : Z.length ≤ 200 := by omega
          have hnew : rowsL Z ++ [[(k : Int), (j : Int)]] = prL (pall n k ++ prow k (j + 1)) := by rw [hrows, prow_step hkj, ← List.append_assoc]; simp [prL]
          have HN := Lib.hid hnew
          clear how hrows hnew hzl hl1 hl2 hl3 HZ
          have m0 : (0 : Int) ≤ (j : Int) := by omega
          have m1 : (j : Int) < (n : Int) := by omega
          have m3 : IntKind.i64.wrap ((j : Int) + 1) = (j : Int) + 1 := IntWalk.i64_in _ (by omega)
          go_wp2_with (at_builtin; refine wpList_append_own _ rfl _ _ 46 rfl (w.heap.size) 48 q0 (.slice none 0 0) 1 24 Try.underlying46 HI.out HZ0.out HZ1.out HZ2.out rfl (by decide) _ _ _ rfl ((HOW.out.1.alloc _).alloc _) ⟨wi.heap.size + 1, 0, none⟩ 1 1 [.slice (some ⟨wi.heap.size, 0, none⟩) 2 2] rfl rfl ?c1 ?c2 ?c3 ?c4 ?c5 ?_)
          case c1 =>
            intro t u ht
            match t, ht with
            | 0, ht => simp at ht; subst ht; simp [Addr.add]
          case c2 => intro u hu; simp at hu; subst hu; rfl
          case c3 => unfold maxLen; omega
          case c4 => omega
          case c5 => simp; omega
          intro v' w2 hown' hgrow _
          have hZ1 : OwnZ ((wi.alloc (.cells #[.int .i64 (k : Int), .int .i64 (j : Int)] 3)).alloc (.cells #[.slice (some ⟨wi.heap.size, 0, none⟩) 2 2] 48)) w.heap.size _ Z := HOW.out.below (((Below.refl _ wi).alloc (Nat.le_refl _) _).alloc (by simp) _)
          have hu : OwnInts ((wi.alloc (.cells #[.int .i64 (k : Int), .int .i64 (j : Int)] 3)).alloc (.cells #[.slice (some ⟨wi.heap.size, 0, none⟩) 2 2] 48)) w.heap.size (.slice (some ⟨wi.heap.size, 0, none⟩) 2 2) [(k : Int), (j : Int)] := World.ownsRow.alloc (World.ownsRow_lit wi #[.int .i64 (k : Int), .int .i64 (j : Int)] 2 hsi (by unfold maxLen; omega) rfl) _
          have hst := OwnZ.step hZ1 hu (fun z hz g hg e => by
            have h1 := (World.ownsRow.lt (HOW.out.2.1 z hz) g hg).2
            have h2 : wi.heap.size = g := Option.some.inj e
            omega) hown' hgrow
          have hb2 : Below w.heap.size w w2 := ((hbi.alloc hsi _).alloc (by simp; omega) _).grown hgrow (by simp; omega) (fun x hx => (World.ownsRow.lt HOW.out.1 x hx).1)
          have HZ2 : Hid (∃ Z, OwnZ w2 w.heap.size v' Z ∧ rowsL Z = prL (pall n k ++ prow k (j + 1))) := Lib.hid ⟨_, hst, by rw [← HN.out]; simp [rowsL]⟩
          clear hown' hgrow hst hZ1 hu HOW HN
          go_wp2
          go_roundw
          case rel => exact ⟨j + 1, by omega, by omega, by go_num, HZ2, hb2⟩
          case measure => simp [intOf]; omega
        · obtain rfl : j = n := by omega
          have HZ2 : Hid (∃ Z, OwnZ wi w.heap.size u3 Z ∧ rowsL Z = prL (pall j (k + 1))) := Lib.hid HZ.out
          clear HZ
          go_wp2
          go_roundw
          case rel => exact ⟨k + 1, by omega, by go_num, HZ2, (by repeat (first | exact Below.refl _ _ | assumption | refine Below.drew ?_ | refine below_drewN ?_ _ | refine Below.alloc ?_ (by first | omega | (simp; done) | (simp; omega)) _ | refine Below.setCell ?_ (by first | omega | (simp; done) | (simp; omega)) _ | refine Below.trans ?_ (Below.mono (by assumption) (by first | omega | (simp; done) | (simp; omega)))))⟩
          case measure => simp [intOf]; omega
    · obtain rfl : k = n := by omega
      go_wp2
      go_ret
      exact ⟨_, rfl, HZ.out, (by repeat (first | exact Below.refl _ _ | assumption | refine Below.drew ?_ | refine below_drewN ?_ _ | refine Below.alloc ?_ (by first | omega | (simp; done) | (simp; omega)) _ | refine Below.setCell ?_ (by first | omega | (simp; done) | (simp; omega)) _ | refine Below.trans ?_ (Below.mono (by assumption) (by first | omega | (simp; done) | (simp; omega)))))⟩

end Go.Proofs.Ytmflgcikclikeaa
