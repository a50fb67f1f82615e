/- The exact law of ParseMusic holds at every text. No conditions. -/
import Derived.Test.YtbpphcdhbbhjpaaMuParseI
import Derived.Test.YtbpphcdhbbhjpaaMuParseS
import Derived.Test.YtbpphcdhbbhjpaaToMeasure
import Derived.Test.YtbpphcdhbbhjpaaEqMeasure
import Derived.Test.YtbpphcdhbbhjpaaMkMeasure
import Derived.Test.YtbpphcdhbbhjpaaFrame
import Derived.ChangeMaps5
namespace Go.Proofs.Ytbpphcdhbbhjpaa
open Go.ChangeShapes Go.WideShapes Go.ChangeAt Go.RowKit


set_option maxHeartbeats 1000000 in
theorem parseMusicL_over (l : List UInt8) (hl : ¬ l.length ≤ 1048576) (h2 : l.length ≤ maxLen) (w : World) :
    Calls Try.prog 13 #[.string (bs l)] w fun e w' => e = .returned (.bool true) ∧ Below w.heap.size w w' := by
  have hz := bs_size l
  have h3 : (1048576 : Int) < (l.length : Int) := by omega
  go_enter Try.func13, Try.ntmps13
  go_wp2
  go_ret
  exact ⟨rfl, (by repeat (first | exact Below.refl _ _ | assumption | refine Below.drew ?_ | refine below_drewN ?_ _ | refine Below.alloc ?_ (by first | omega | (simp; done) | (simp; omega)) _ | refine Below.setCell ?_ (by first | omega | (simp; done) | (simp; omega)) _ | refine Below.trans ?_ (Below.mono (by assumption) (by first | omega | (simp; done) | (simp; omega)))))⟩

set_option maxRecDepth 100000 in
set_option maxHeartbeats 4000000 in
theorem parseMusicL_fits (l : List UInt8) (hl : l.length ≤ 1048576) (w : World) :
    Calls Try.prog 13 #[.string (bs l)] w fun e w' => e = .returned (.bool true) ∧ Below w.heap.size w w' := by
  have hz := bs_size l
  have h3 : ¬ (1048576 : Int) < (l.length : Int) := by omega
  have hxl : (parL l).length ≤ 1048576 := Nat.le_trans (parL_len l) (by omega)
  have HSP := Lib.hid (fun W => specParse_any l hl W)
  have HIM := Lib.hid (fun W => parseMusic_any l hl W)
  obtain ⟨xs, hxs⟩ : ∃ xs, xs = parL l := ⟨_, rfl⟩
  obtain ⟨ok, hok⟩ : ∃ ok, ok = parB l := ⟨_, rfl⟩
  rw [← hxs] at hxl
  simp only [← hxs, ← hok] at HSP HIM
  have hB0 : Below w.heap.size w w := Below.refl _ _
  clear hxs hok
  go_enter Try.func13, Try.ntmps13
  go_wp2_with fail
  refine (HSP.out _).mono ?_
  rintro e w3 ⟨v0, rfl, ho3, hb3⟩
  have hs3 := hb3.size; (try simp at hs3); have hB3 : Below w.heap.size w w3 := (by repeat (first | exact Below.refl _ _ | assumption | refine Below.drew ?_ | refine below_drewN ?_ _ | refine Below.alloc ?_ (by first | omega | (simp; done) | (simp; omega)) _ | refine Below.setCell ?_ (by first | omega | (simp; done) | (simp; omega)) _ | refine Below.trans ?_ (Below.mono (by assumption) (by first | omega | (simp; done) | (simp; omega)))))
  obtain ⟨a0, cap0, rfl, I3, hA0⟩ := own_viewP ho3
  have HA0 := Lib.hid hA0
  clear ho3 hA0
  go_wp2_with fail
  refine (HIM.out _).mono ?_
  rintro e w6 ⟨v1, rfl, ho6, hb6⟩
  have hs6 := hb6.size; (try simp at hs6); have hB6 : Below w.heap.size w w6 := (by repeat (first | exact Below.refl _ _ | assumption | refine Below.drew ?_ | refine below_drewN ?_ _ | refine Below.alloc ?_ (by first | omega | (simp; done) | (simp; omega)) _ | refine Below.setCell ?_ (by first | omega | (simp; done) | (simp; omega)) _ | refine Below.trans ?_ (Below.mono (by assumption) (by first | omega | (simp; done) | (simp; omega)))))
  have I6 := I3.below hb6
  clear I3
  obtain ⟨a1, cap1, rfl, J6, hA1⟩ := own_viewP ho6
  have HA1 := Lib.hid hA1
  clear hA1
  go_wp2_with fail
  refine (eqMeasureS_same a1 a0 cap1 cap0 xs hxl J6 I6).mono ?_
  rintro e w7 ⟨rfl, hb7⟩
  have hs7 := hb7.size; (try simp at hs7); have hB7 : Below w.heap.size w w7 := (by repeat (first | exact Below.refl _ _ | assumption | refine Below.drew ?_ | refine below_drewN ?_ _ | refine Below.alloc ?_ (by first | omega | (simp; done) | (simp; omega)) _ | refine Below.setCell ?_ (by first | omega | (simp; done) | (simp; omega)) _ | refine Below.trans ?_ (Below.mono (by assumption) (by first | omega | (simp; done) | (simp; omega)))))
  have I7 := I6.below hb7
  have ho7 := own_below ho6 hb7
  clear I6 J6 ho6
  cases ok
  all_goals
    go_wp2_with fail
    refine (markMeasureS_any a1 w3.heap.size cap1 xs hxl ho7).mono ?_
    rintro e w12 ⟨rfl, M12, hg12⟩
    have hup12 : ∀ k, a1.map (·.block) = some k → w.heap.size ≤ k := fun k e => by
      cases h : a1 with
      | none => rw [h] at e; cases e
      | some z => rw [h] at e; have h1 := HA1.out z h; have h2 : z.block = k := Option.some.inj e; omega
    have hs12 := hg12.size; have hB12 : Below w.heap.size w w12 := hB7.grown hg12 (by omega) hup12
    have I12 := I7.other hg12 (fun z hz e => by
      cases h : a1 with
      | none => rw [h] at e; cases e
      | some z' => rw [h] at e; have h0 := HA0.out z hz; have h1 := HA1.out z' h; have h2 : z.block = z'.block := Option.some.inj e; omega)
    clear I7 ho7 hup12 hg12
    go_wp2_with fail
    refine (heldMeasureS_marks a1 cap1 xs.length hxl M12).mono ?_
    rintro e w' ⟨rfl, rfl⟩
    go_wp2_with fail
    refine (HIM.out _).mono ?_
    rintro e w15 ⟨v2, rfl, ho15, hb15⟩
    have hs15 := hb15.size; (try simp at hs15); have hB15 : Below w.heap.size w w15 := (by repeat (first | exact Below.refl _ _ | assumption | refine Below.drew ?_ | refine below_drewN ?_ _ | refine Below.alloc ?_ (by first | omega | (simp; done) | (simp; omega)) _ | refine Below.setCell ?_ (by first | omega | (simp; done) | (simp; omega)) _ | refine Below.trans ?_ (Below.mono (by assumption) (by first | omega | (simp; done) | (simp; omega)))))
    have I15 := I12.below hb15
    have M15 := M12.below hb15
    clear I12 M12
    obtain ⟨a2, cap2, rfl, J15, _⟩ := own_viewP ho15
    clear ho15
    go_wp2_with fail
    refine (eqMeasureS_same a2 a0 cap2 cap0 xs hxl J15 I15).mono ?_
    rintro e w16 ⟨rfl, hb16⟩
    have hs16 := hb16.size; (try simp at hs16); have hB16 : Below w.heap.size w w16 := (by repeat (first | exact Below.refl _ _ | assumption | refine Below.drew ?_ | refine below_drewN ?_ _ | refine Below.alloc ?_ (by first | omega | (simp; done) | (simp; omega)) _ | refine Below.setCell ?_ (by first | omega | (simp; done) | (simp; omega)) _ | refine Below.trans ?_ (Below.mono (by assumption) (by first | omega | (simp; done) | (simp; omega)))))
    have M16 := M15.below hb16
    clear I15 M15 J15
    go_wp2_with fail
    refine (heldMeasureS_marks a1 cap1 xs.length hxl M16).mono ?_
    rintro e w' ⟨rfl, rfl⟩
    go_wp2_with fail
    go_ret
    exact ⟨rfl, hB16⟩
theorem parseMusicL_law (t : ByteArray) (hmx : t.data.toList.length ≤ maxLen) (w : World) :
    Calls Try.prog 13 #[.string t] w fun e w' => e = .returned (.bool true) ∧ Below w.heap.size w w' := by
  by_cases hl : t.data.toList.length ≤ 1048576
  · exact parseMusicL_fits t.data.toList hl w
  · exact parseMusicL_over t.data.toList hl hmx w

set_option maxRecDepth 100000 in
theorem parseMusicL_holds : Rows.FnExactParseMusicSaid :=
  OpenClaim.holds_of_wide 13 Try.f13 rfl rfl rfl rfl rfl rfl rfl ⟨rfl, rfl, rfl, rfl, rfl⟩ rfl rfl rfl rfl rfl (by kernel_rfl) Try.func13 (by kernel_rfl)
    (of_decide_eq_true (by kernel_rfl)) (by unfold Func.isWrapper; rw [if_neg (of_decide_eq_false (by kernel_rfl))]; exact ⟨rfl, rfl⟩)
    (fun os started H enc _ => law_lifted (C := Try.checked) (s := Rows.fnExactParseMusicSpec) Try.own started (by kernel_rfl) Try.func13
      (ChangeSpec.witness6 (enc := enc) (C := Try.checked) false ⟨#[], #[.string ⟨#[]⟩], []⟩ 8 (by kernel_rfl) (by kernel_rfl) (by kernel_rfl) (by kernel_rfl))
      Try.laidOut (by kernel_rfl) rfl Try.underlying4 rfl
      (fun W base args ds p hval hA hlt => by
        have hA' : DataW.TrodAll enc Try.prog W 0 (fun _ => true) true Try.f13.params.toList args.toList ds p := hA
        have hval' : ∀ (j : Nat) t v, Try.f13.params[j]? = some t → args[j]? = some v → Value.okWide Try.prog W .any base t v := hval
        rw [Try.params13] at hA' hval'
        obtain ⟨v0, d0, rfl, rfl, h0⟩ := trodAll_one hA'
        obtain ⟨t, rfl, rfl, rfl, hmx⟩ := Go.ChangeMaps.open_string Try.underlying9 (hval' 0 _ v0 rfl rfl) h0
        exact ⟨rfl, parseMusicL_law t hmx W⟩))

end Go.Proofs.Ytbpphcdhbbhjpaa
