/- The other side's writing of a number. No conditions but those written in each theorem. -/
import Derived.Test.YtfimjfchdaioeaaDoorNum
import Derived.Lib.ItoaMem
import Derived.IntWalk
import Derived.Deep.RegionHeld3
import Derived.Deep.DrawnRows
namespace Go.Proofs.YtfimjfchdaioeaaDoor
open Go.RowKit


attribute [local go_sem ↓] Go.wp_at_zero Go.wp_at_succ

/-- One digit. -/
def digS (n : Nat) : ByteArray := ⟨#[UInt8.ofNat (48 + n)]⟩
theorem decT_small (n : Nat) (h : n < 10) : decT n = digS n := by
  unfold decT digS
  rw [Lib.decDigits, dif_pos h]
theorem decT_step (n : Nat) (h : ¬ n < 10) : decT n = decT (n / 10) ++ digS (n % 10) := by
  unfold decT digS
  rw [Lib.decDigits, dif_neg h]
  apply ByteArray.ext
  rw [ByteArray.data_append]
  simp
theorem conv_digit (n : Nat) (h : n < 10) (W : World) (b : Nat) (hc : W.cell? ⟨b, 0, none⟩ = some (.int .u8 (48 + (n : Int)))) :
    (convert 37 9 (.slice (some ⟨b, 0, none⟩) 1 1)).run Tryd.prog W = .ok (.string (digS n)) W := by
  have e : (UInt8.ofNat (48 + n)).toNat = 48 + n := by
    rw [UInt8.toNat_ofNat']
    omega
  refine run_convert_bytes_back _ _ _ 5 ⟨b, 0, none⟩ 1 [UInt8.ofNat (48 + n)] Tryd.underlying37 Tryd.underlying5 Tryd.underlying9 ?_
  intro j hj
  match j, hj with
  | 0, _ =>
    simp only [Addr.add, List.getElem_cons_zero, e]
    simpa using hc
set_option maxHeartbeats 1000000 in
theorem l1Num_small (n : Nat) (h : n < 10) (w : World) :
    Calls Tryd.prog 30 #[.int .i64 n] w fun e w' => e = .returned (.string (decT n)) ∧ Below w.heap.size w w' := by
  have hcv := conv_digit n h
  have e0 := decT_small n h
  have E0 := Lib.hid e0
  clear e0
  go_enter Tryd.func30, Tryd.ntmps30
  go_wp2
  go_ret
  exact ⟨by rw [E0.out]; rfl, (by repeat (first | exact Below.refl _ _ | assumption | refine Below.drew ?_ | refine below_drewN ?_ _ | refine Below.alloc ?_ (by first | omega | (simp; done) | (simp; omega)) _ | refine Below.setCell ?_ (by first | omega | (simp; done) | (simp; omega)) _ | refine Below.trans ?_ (Below.mono (by assumption) (by first | omega | (simp; done) | (simp; omega)))))⟩

theorem digS_size (n : Nat) : (digS n).size = 1 := rfl
set_option maxHeartbeats 1000000 in
theorem l1Num_big (n : Nat) (h : ¬ n < 10) (hn : n ≤ 1000000) (ih : ∀ w : World, Calls Tryd.prog 30 #[.int .i64 (n / 10 : Nat)] w fun e w' => e = .returned (.string (decT (n / 10))) ∧ Below w.heap.size w w') (w : World) :
    Calls Tryd.prog 30 #[.int .i64 n] w fun e w' => e = .returned (.string (decT n)) ∧ Below w.heap.size w w' := by
  have hcv := conv_digit (n % 10) (by omega)
  have c1 : ((n / 10 : Nat) : Int) = (n : Int) / 10 := by omega
  have c2 : ((n % 10 : Nat) : Int) = (n : Int) % 10 := by omega
  rw [c1] at ih
  simp only [c2] at hcv
  clear c1 c2
  have IH := Lib.hid ih
  clear ih
  have e0 := decT_step n h
  have E0 := Lib.hid e0
  clear e0
  have s1 := decT_size (n / 10) (by omega)
  have s2 := digS_size (n % 10)
  have s3 : (digS (n % 10)).size ≤ 1 := by omega
  clear s2
  go_enter Tryd.func30, Tryd.ntmps30
  have v1 : IntKind.i64.wrap ((n : Int) / 10) = (n : Int) / 10 := IntWalk.i64_in _ (by omega)
  have v2 : ((n : Int)).tmod 10 = (n : Int) % 10 := Int.tmod_eq_emod_of_nonneg (by omega)
  have v3 : IntKind.i64.wrap (48 + (n : Int) % 10) = 48 + (n : Int) % 10 := IntWalk.i64_in _ (by omega)
  have v4 : IntKind.u8.wrap (48 + (n : Int) % 10) = 48 + (n : Int) % 10 := by
    have hb : 0 ≤ 48 + (n : Int) % 10 ∧ 48 + (n : Int) % 10 ≤ 255 := by omega
    exact IntWalk.u8_in _ hb
  go_wp2
  go_region_with ((go_at_call 30; (refine (IH.out _).mono ?_; rintro e w1 ⟨rfl, hb1⟩; have hs1 := hb1.size; (try simp at hs1); (first | have hk4 := call_facts hl3 hb1 (by simp) | skip); (first | have hk3 := call_facts hl2 hb1 (by simp) | skip); (first | have hk2 := call_facts hl1 hb1 (by simp) | skip); have hk1 := call_facts (fun b h => h) hb1 (Nat.le_refl _); (first | have hl4 := hk4.1 | skip); (first | have hl3 := hk3.1 | skip); (first | have hl2 := hk2.1 | skip); have hl1 := hk1.1)))
  all_goals
    clear v1 v2 v3 v4
    go_wp2
    go_ret
    exact ⟨by rw [E0.out]; rfl, (by repeat (first | exact Below.refl _ _ | assumption | refine Below.drew ?_ | refine below_drewN ?_ _ | refine Below.alloc ?_ (by first | omega | (simp; done) | (simp; omega)) _ | refine Below.setCell ?_ (by first | omega | (simp; done) | (simp; omega)) _ | refine Below.trans ?_ (Below.mono (by assumption) (by first | omega | (simp; done) | (simp; omega)))))⟩

theorem l1Num_nat : ∀ (n : Nat), n ≤ 1000000 → ∀ w : World, Calls Tryd.prog 30 #[.int .i64 n] w fun e w' => e = .returned (.string (decT n)) ∧ Below w.heap.size w w' := by
  intro n
  induction n using Nat.strongRecOn with
  | _ n ih =>
    intro hn w
    by_cases h : n < 10
    · exact l1Num_small n h w
    · exact l1Num_big n h hn (ih (n / 10) (by omega) (by omega)) w
theorem l1Num_any (m : Int) (h0 : 0 ≤ m) (h1 : m ≤ 1000000) (w : World) : Calls Tryd.prog 30 #[.int .i64 m] w fun e w' => e = .returned (.string (decT m.toNat)) ∧ Below w.heap.size w w' := by
  obtain ⟨n, rfl⟩ := Int.eq_ofNat_of_zero_le h0
  exact l1Num_nat n (by omega) w

end Go.Proofs.YtfimjfchdaioeaaDoor
