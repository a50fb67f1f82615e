/- The frame of a law's proof where the row names variables of the program and lists what is laid in them: if the law's call returns true and changes nothing that was there, its statement holds. -/
import Derived.Test.YtagfleajkalgiaaDoorFrame
import Derived.LaidMore
import Derived.Stop.Joined
import Derived.ChangeVars
namespace Go.Proofs.YtagfleajkalgiaaDoor
open Go.ChangeShapes Go.WideShapes Go.ChangeAt Go.RowKit Go.Joins

section
variable {H : Type} {enc : TypeId × Value → H}
/-- Named variables read behind the call as they read before it. -/
theorem vars_stay {P : Program} (hl : laidOutB P = true) {W W' : World} (hb : Below W.heap.size W W') :
    ∀ {vs : List String} {gs : List (DataW H)} {q : List MemPlace}, (∀ n ∈ vs, ∀ g t, P.globalNamed n = some g → (P.globals[g]?).map (·.type) = some t → P.readableRec t = true ∧ t < P.types.size) → (∀ x ∈ q, x.block < W.heap.size) →
      DataW.TrodVars enc P W (fun _ => true) vs gs q → DataW.TrodVars enc P W' (fun b => decide (b < W.heap.size)) vs gs q := by
  intro vs
  induction vs with
  | nil =>
    intro gs q _ _ h
    obtain ⟨rfl, rfl⟩ := trodVars_none h
    rfl
  | cons n ns ih =>
    intro gs q hr hlt h
    cases gs with
    | nil => exact h.elim
    | cons d ds =>
      obtain ⟨g, t, cs, fuel, p, q', h1, h2, h3, h4, hs, rfl⟩ := h
      obtain ⟨hrec, hsz⟩ := hr n (by simp) g t h1 h2
      have hT : DataW.Trod enc P W 0 (fun _ => true) true t (.agg cs) d p := ⟨fuel, h4⟩
      obtain ⟨fuel', h4'⟩ := Below.trod hl hrec hsz hT hb (fun x hx => hlt x (by simp [hx]))
      exact ⟨g, t, cs, fuel', p, q', h1, h2, var_stays h1 h3 hb (Nat.le_refl _), h4', ih (fun m hm => hr m (by simp [hm])) (fun x hx => hlt x (by simp [hx])) hs, rfl⟩

/-- What a law's row asks behind the call. -/
theorem law_post_vars {P : Program} {f : Func} {s : ChangeSpec} {W W' : World} {args : Array Value} {ds gs : List (DataW H)} {before : List MemPlace} {tb : TypeId}
    (hl : laidOutB P = true) (hr : ∀ t ∈ f.params.toList, P.readableRec t = true ∧ t < P.types.size) (hrv : ∀ n ∈ s.vars, ∀ g t, P.globalNamed n = some g → (P.globals[g]?).map (·.type) = some t → P.readableRec t = true ∧ t < P.types.size)
    (hrt : f.resultTypes = #[tb]) (htb : P.underlying tb = some .bool)
    (hfn : s.fn H (ds ++ gs) = { results := [.lit (.bool true)], args := ds, vars := gs })
    (hW : DataW.Whole enc P f.params.toList s.vars false W args.toList ds gs before) (hb : Below W.heap.size W W') : s.post enc P f false true false false W args (.bool true) W' := by
  have hlt : ∀ p ∈ before, p.block < W.heap.size := fun p hp => hW.lt p hp
  obtain ⟨p, q, hA, hV, rfl, _, _⟩ := id hW
  refine ⟨ds, gs, p ++ q, [], p, q, hW, ?_, ?_, ?_, ?_, fun h => by cases h⟩
  · rw [hfn, hrt]
    exact trodAll_mk1 (shut_bool htb true)
  · rw [hfn]
    exact args_stay hl hb hr (fun x hx => hlt x (by simp [hx])) hA
  · rw [hfn]
    exact vars_stay hl hb hrv (fun x hx => hlt x (by simp [hx])) hV
  · exact World.keptBut_mono (fun x hx => ⟨hx, by simpa using hx⟩) (hb.frame (· ∈ p ++ q))

/-- THE FRAME for a row that names variables of the program and lists what is laid in them. -/
theorem law_lifted_vars {C : Checked} {os : Os} {f : FuncId} {fn : Func} {s : ChangeSpec} {tb : TypeId} {laid : List (String × DataW Unit)}
    (own : ownKnob C.prog.godebug = none) (started : os.Started) (noInit : C.prog.inits.idxOf? f = none) (hfn : C.prog.funcs[f]? = some fn)
    (witness : ∃ (w : World) (tape : Tape) (i : Input), w.os = os ∧ (w.forCall tape i).Shaped C.prog ∧ i.vars = [] ∧ Input.okWide C.prog (w.forCall tape i) .any w.heap.size f i ∧
      ((s.pre enc C.prog fn [] false (w.forCall tape i).memory i.args ∧ laidMetH C.prog laid (w.forCall tape i).memory) ∧ sizedMet enc C.prog fn (OpenSpec.ofChange s) false (w.forCall tape i).memory i.args) ∧ ({} : Assume).holds C.prog (lone (Frame.enter C.prog f i.args .normal) [] (w.forCall tape i)))
    (hl : laidOutB C.prog = true) (hr : fn.params.toList.all (fun t => C.prog.readableRec t && decide (t < C.prog.types.size)) = true) (hrt : fn.resultTypes = #[tb]) (htb : C.prog.underlying tb = some .bool)
    (hrv : ∀ n ∈ s.vars, ∀ g t, C.prog.globalNamed n = some g → (C.prog.globals[g]?).map (·.type) = some t → C.prog.readableRec t = true ∧ t < C.prog.types.size)
    (contract : ∀ (W : World) (base : Nat) (args : Array Value) (ds gs : List (DataW H)) (p q : List MemPlace),
      (∀ (j : Nat) t v, fn.params[j]? = some t → args[j]? = some v → Value.okWide C.prog W .any base t v) →
      DataW.TrodAll enc C.prog W 0 (fun _ => true) true fn.params.toList args.toList ds p → DataW.TrodVars enc C.prog W (fun _ => true) s.vars gs q → laidMetH C.prog laid W →
      s.fn H (ds ++ gs) = { results := [.lit (.bool true)], args := ds, vars := gs } ∧ Calls C.prog f args W fun e W' => e = .returned (.bool true) ∧ Below W.heap.size W W') :
    ReturnsInHanded {} C os f .any (fun w args => (s.pre enc C.prog fn [] false w args ∧ laidMetH C.prog laid w) ∧ sizedMet enc C.prog fn (OpenSpec.ofChange s) false w args) (s.post enc C.prog fn false true false false) := by
  refine returnsInHanded_of_change_and (X := fun w _ => laidMetH C.prog laid w) (fun _ _ _ hh h => h.of_heap hh) own started noInit hfn witness ?_
  intro W base args ds gs before hval hW _ _ hL _
  obtain ⟨p, q, hA, hV, hpq, _, _⟩ := id hW
  obtain ⟨hs, hc⟩ := contract W base args ds gs p q hval hA hV hL
  refine hc.mono fun e W' ⟨he, hb⟩ => ⟨_, he, law_post_vars hl ?_ hrv hrt htb hs hW hb⟩
  intro t ht
  have := List.all_eq_true.1 hr t ht
  simpa using this
end

end Go.Proofs.YtagfleajkalgiaaDoor
