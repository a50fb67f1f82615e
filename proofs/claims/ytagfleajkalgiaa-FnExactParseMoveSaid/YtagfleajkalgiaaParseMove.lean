/- The exact law of ParseMove holds at every text. No conditions. -/
import Derived.Test.YtagfleajkalgiaaMvParS
import Derived.Test.YtagfleajkalgiaaFrame
import Derived.Deep.RegionHeld3
import Derived.Deep.DeepCutAuto
import Derived.Deep.DrawnRows
import Derived.ChangeMaps5
namespace Go.Proofs.Ytagfleajkalgiaa
open Go.ChangeShapes Go.WideShapes Go.ChangeAt Go.RowKit


attribute [local go_sem ↓] Go.wp_at_zero Go.wp_at_succ

set_option maxHeartbeats 1000000 in
theorem parseMvL_long (l : List UInt8) (hl : ¬ l.length ≤ 1048576) (h2 : l.length ≤ maxLen) (w : World) :
    Calls Try.prog 11 #[.string (bs l)] w fun e w' => e = .returned (.bool true) ∧ Below w.heap.size w w' := by
  have hz := bs_size l
  have h3 : (1048576 : Int) < (l.length : Int) := by omega
  go_enter Try.func11, Try.ntmps11
  go_wp2
  go_ret
  exact ⟨rfl, (by repeat (first | exact Below.refl _ _ | assumption | refine Below.drew ?_ | refine below_drewN ?_ _ | refine Below.alloc ?_ (by first | omega | (simp; done) | (simp; omega)) _ | refine Below.setCell ?_ (by first | omega | (simp; done) | (simp; omega)) _ | refine Below.trans ?_ (Below.mono (by assumption) (by first | omega | (simp; done) | (simp; omega)))))⟩

set_option maxHeartbeats 4000000 in
theorem parseMvL_law (l : List UInt8) (hl : l.length ≤ 1048576) (m : Int) {w : World} (hm : w.cell? ⟨0, 0, none⟩ = some (.int .i64 m)) :
    Calls Try.prog 11 #[.string (bs l)] w fun e w' => e = .returned (.bool true) ∧ Below w.heap.size w w' := by
  have hz0 := World.block_lt_of_cell? w _ hm
  have hp := fun W => specPM_any l hl W
  have hq := fun (W : World) (hb : Below w.heap.size w W) => parseMove_any l m hl (w := W) ((hb.cell (p := ⟨0, 0, none⟩) hz0).trans hm)
  have hA : ∃ U1 U2 U3 U4 U5 : Int, ∃ B : Bool, ansMove l = .tuple #[.agg #[.int .i64 U1, .int .i64 U2, .int .i64 U3, .int .i64 U4, .int .i64 U5], .bool B] := ⟨_, _, _, _, _, _, rfl⟩
  obtain ⟨U1, U2, U3, U4, U5, B, hA⟩ := hA
  rw [hA] at hp hq
  have HP := Lib.hid hp
  have HQ := Lib.hid hq
  clear hp hq hm hA
  have hz := bs_size l
  have h3 : ¬ (1048576 : Int) < (l.length : Int) := by omega
  obtain ⟨q1, q2, q3, q4, q5, q6, q7⟩ := nadd
  go_enter Try.func11, Try.ntmps11
  go_wp2_with (first | (go_at_call 34; (with_reducible refine (HP.out _).mono ?_; rintro e w1 ⟨rfl, hb1⟩; have hs1 := hb1.size; (try simp at hs1); (first | have hk6 := call_facts hl5 hb1 (by first | (simp; done) | (simp; omega)) | skip); (first | have hk5 := call_facts hl4 hb1 (by first | (simp; done) | (simp; omega)) | skip); (first | have hk4 := call_facts hl3 hb1 (by simp) | skip); (first | have hk3 := call_facts hl2 hb1 (by simp) | skip); (first | have hk2 := call_facts hl1 hb1 (by simp) | skip); have hk1 := call_facts (fun b h => h) hb1 (Nat.le_refl _); (first | have hl6 := hk6.1 | skip); (first | have hl5 := hk5.1 | skip); (first | have hl4 := hk4.1 | skip); (first | have hl3 := hk3.1 | skip); (first | have hl2 := hk2.1 | skip); have hl1 := hk1.1)) | (go_at_call 35; (with_reducible refine (HQ.out _ (by repeat (first | exact Below.refl _ _ | assumption | refine Below.drew ?_ | refine below_drewN ?_ _ | refine Below.alloc ?_ (by first | omega | (simp; done) | (simp; omega)) _ | refine Below.setCell ?_ (by first | omega | (simp; done) | (simp; omega)) _ | refine Below.trans ?_ (Below.mono (by assumption) (by first | omega | (simp; done) | (simp; omega)))))).mono ?_; rintro e w1 ⟨rfl, hb1⟩; have hs1 := hb1.size; (try simp at hs1); (first | have hk6 := call_facts hl5 hb1 (by first | (simp; done) | (simp; omega)) | skip); (first | have hk5 := call_facts hl4 hb1 (by first | (simp; done) | (simp; omega)) | skip); (first | have hk4 := call_facts hl3 hb1 (by simp) | skip); (first | have hk3 := call_facts hl2 hb1 (by simp) | skip); (first | have hk2 := call_facts hl1 hb1 (by simp) | skip); have hk1 := call_facts (fun b h => h) hb1 (Nat.le_refl _); (first | have hl6 := hk6.1 | skip); (first | have hl5 := hk5.1 | skip); (first | have hl4 := hk4.1 | skip); (first | have hl3 := hk3.1 | skip); (first | have hl2 := hk2.1 | skip); have hl1 := hk1.1)) | (go_at_call 24; (with_reducible refine (eqMove_same _ _ _ _ _ _).mono ?_; rintro e w1 ⟨rfl, hb1⟩; have hs1 := hb1.size; (try simp at hs1); (first | have hk6 := call_facts hl5 hb1 (by first | (simp; done) | (simp; omega)) | skip); (first | have hk5 := call_facts hl4 hb1 (by first | (simp; done) | (simp; omega)) | skip); (first | have hk4 := call_facts hl3 hb1 (by simp) | skip); (first | have hk3 := call_facts hl2 hb1 (by simp) | skip); (first | have hk2 := call_facts hl1 hb1 (by simp) | skip); have hk1 := call_facts (fun b h => h) hb1 (Nat.le_refl _); (first | have hl6 := hk6.1 | skip); (first | have hl5 := hk5.1 | skip); (first | have hl4 := hk4.1 | skip); (first | have hl3 := hk3.1 | skip); (first | have hl2 := hk2.1 | skip); have hl1 := hk1.1)))
  go_ret
  exact ⟨rfl, (by repeat (first | exact Below.refl _ _ | assumption | refine Below.drew ?_ | refine below_drewN ?_ _ | refine Below.alloc ?_ (by first | omega | (simp; done) | (simp; omega)) _ | refine Below.setCell ?_ (by first | omega | (simp; done) | (simp; omega)) _ | refine Below.trans ?_ (Below.mono (by assumption) (by first | omega | (simp; done) | (simp; omega)))))⟩

set_option maxRecDepth 100000 in
theorem parseMvL_holds : Rows.FnExactParseMoveSaid :=
  OpenClaim.holds_of_wide 11 Try.f11 rfl rfl rfl rfl rfl rfl rfl ⟨rfl, rfl, rfl, rfl, rfl⟩ rfl rfl rfl rfl rfl (by kernel_rfl) Try.func11 (by kernel_rfl)
    (of_decide_eq_true (by kernel_rfl)) (by unfold Func.isWrapper; rw [if_neg (of_decide_eq_false (by kernel_rfl))]; exact ⟨rfl, rfl⟩)
    (fun os started H enc _ => law_lifted_shaped (C := Try.checked) (s := Rows.fnExactParseMoveSpec) Try.own started (by kernel_rfl) Try.func11
      (ChangeSpec.witness6 (enc := enc) (C := Try.checked) false ⟨#[], #[.string ⟨#[]⟩], []⟩ 8 (by kernel_rfl) (by kernel_rfl) (by kernel_rfl) (by kernel_rfl))
      Try.laidOut (by kernel_rfl) rfl Try.underlying4 rfl
      (fun W base args ds p hval hA hlt hsh => by
        have hA' : DataW.TrodAll enc Try.prog W 0 (fun _ => true) true Try.f11.params.toList args.toList ds p := hA
        have hval' : ∀ (j : Nat) t v, Try.f11.params[j]? = some t → args[j]? = some v → Value.okWide Try.prog W .any base t v := hval
        rw [Try.params11] at hA' hval'
        obtain ⟨v0, d0, rfl, rfl, h0⟩ := trodAll_one hA'
        obtain ⟨t, rfl, rfl, rfl, hmx⟩ := Go.ChangeMaps.open_string Try.underlying9 (hval' 0 _ v0 rfl rfl) h0
        obtain ⟨m, hm⟩ := cell_of_shapedOpen_int (P := Try.prog) (g := 0) (t := 3) (zero := #[.int .i64 0]) hsh (of_decide_eq_true (by kernel_rfl)) (by kernel_rfl) rfl (by kernel_rfl) (by kernel_rfl) Try.underlying3
        have hc : Calls Try.prog 11 #[.string t] W fun e w' => e = .returned (.bool true) ∧ Below W.heap.size W w' := by
          by_cases hl : t.data.toList.length ≤ 1048576
          · exact parseMvL_law t.data.toList hl m hm
          · exact parseMvL_long t.data.toList hl hmx W
        exact ⟨rfl, hc⟩))

end Go.Proofs.Ytagfleajkalgiaa
