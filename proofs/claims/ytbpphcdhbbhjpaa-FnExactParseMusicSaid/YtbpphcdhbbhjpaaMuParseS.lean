/- The other side's reading of music. Conditions: the text's length. -/
import Derived.Test.YtbpphcdhbbhjpaaMuSpec
import Derived.Test.YtbpphcdhbbhjpaaOwn
import Derived.Test.YtbpphcdhbbhjpaaToMeasure
import Derived.Test.YtbpphcdhbbhjpaaMuParse
import Derived.Test.YtbpphcdhbbhjpaaL1Split
import Derived.Test.YtbpphcdhbbhjpaaL1Read
import Derived.Test.YtbpphcdhbbhjpaaMuText
import Derived.Deep.RegionHeld3
import Derived.Deep.DrawnRows
import Derived.IntWalk
import Derived.Laws.AppendOwn
import Derived.Deep.AppendLies
namespace Go.Proofs.Ytbpphcdhbbhjpaa
open Go.RowKit


attribute [local go_sem ↓] Go.wp_at_zero Go.wp_at_succ

theorem two_of {α : Type} : ∀ {l : List α}, l.length = 2 → ∃ x y, l = [x, y]
  | [x, y], _ => ⟨x, y, rfl⟩
theorem spl_len (b : UInt8) (l : List UInt8) : ∀ cur, ∀ x ∈ spl b cur l, x.length ≤ cur.length + l.length := by
  induction l with
  | nil => intro cur x hx; simp [spl] at hx; subst hx; simp
  | cons c r ih =>
    intro cur x hx
    rw [spl] at hx
    split at hx
    · simp only [List.mem_cons] at hx
      rcases hx with rfl | hx
      · simp
      · have := ih [] x hx; simp at this ⊢; omega
    · have := ih _ x hx; simp at this ⊢; omega
theorem splitL_len {b : UInt8} {l : List UInt8} : ∀ x ∈ splitL b l, x.length ≤ l.length := by
  intro x hx
  have := spl_len b l [] x hx
  simpa using this
theorem strs_view {w : World} {base : Nat} {v : Value} {xs : List (List UInt8)} (h : OwnStrs w base v xs) :
    ∃ (a : Option Addr) (cap : Nat), v = .slice a xs.length cap ∧ (∀ i (hi : i < xs.length), ∃ g, a = some ⟨g, 0, none⟩ ∧ w.cell? ⟨g, i, none⟩ = some (.string (bs (xs[i]'hi)))) := by
  rcases own_formS h with ⟨rfl, rfl⟩ | ⟨g, cap, rfl, h1, h2⟩
  · exact ⟨none, 0, rfl, fun i hi => absurd hi (Nat.not_lt_zero i)⟩
  · exact ⟨some ⟨g, 0, none⟩, cap, rfl, fun i hi => ⟨g, rfl, own_strs h i hi⟩⟩
/-- A word is two pieces, and these are their numbers. -/
def PQ (wd : List UInt8) (p : Int × Int) : Prop := ∃ x y, splitL 64 wd = [x, y] ∧ p = (readL x, readL y)
theorem PQ_mtxt {a b : Int} (ha : 0 ≤ a ∧ a ≤ 999) (hb : 0 ≤ b ∧ b ≤ 999) {p : Int × Int} (h : PQ (mtxt a b) p) : p = (a, b) := by
  obtain ⟨x, y, h1, h2⟩ := h
  have h3 : splitL 64 (mtxt a b) = [decL a.toNat, decL b.toNat] := word_split _ _
  rw [h3] at h1
  simp only [List.cons.injEq, and_true] at h1
  rw [h2, ← h1.1, ← h1.2, read_dec ha.1 ha.2, read_dec hb.1 hb.2]
theorem PQ_mtxt_two {a b : Int} : (splitL 64 (mtxt a b)).length = 2 := by
  have h3 : splitL 64 (mtxt a b) = [decL a.toNat, decL b.toNat] := word_split _ _
  rw [h3]; rfl
theorem par_words {s : List UInt8} (h : parB s = true) : ∃ l, musOk l = true ∧ mutx l l.length = s ∧ parL s = l ∧ splitL 32 s = l.map fun p => mtxt p.1 p.2 := by
  obtain ⟨l, hm, he, hp⟩ := par_inv h
  exact ⟨l, hm, he, hp, by rw [← he]; exact split_mutx (musOk_len hm).1⟩
theorem par_many {s : List UInt8} (h : 40 < (splitL 32 s).length) : parB s = false := by
  cases e : parB s
  · rfl
  · obtain ⟨l, hm, _, _, hw⟩ := par_words e
    rw [hw, List.length_map] at h
    have := (musOk_len hm).2
    omega
theorem par_odd {s : List UInt8} {k : Nat} (hk : k < (splitL 32 s).length) (h : (splitL 64 ((splitL 32 s)[k]'hk)).length ≠ 2) : parB s = false := by
  cases e : parB s
  · rfl
  · obtain ⟨l, hm, _, _, hw⟩ := par_words e
    exfalso
    apply h
    have hkl : k < l.length := by rw [hw, List.length_map] at hk; exact hk
    have : (splitL 32 s)[k]'hk = mtxt (l[k]'hkl).1 (l[k]'hkl).2 := by
      simp only [hw, List.getElem_map]
    rw [this]
    exact PQ_mtxt_two
theorem par_out {s : List UInt8} {out : List (Int × Int)} (hl : out.length = (splitL 32 s).length) (hq : ∀ j (h1 : j < (splitL 32 s).length) (h2 : j < out.length), PQ ((splitL 32 s)[j]'h1) (out[j]'h2)) (h : parB s = true) : musOk out = true ∧ mutx out out.length = s ∧ parL s = out := by
  obtain ⟨l, hm, he, hp, hw⟩ := par_words h
  have hll : out.length = l.length := by rw [hl, hw, List.length_map]
  have e : out = l := by
    apply List.ext_getElem hll
    intro j h1 h2
    have hq2 := hq j (by omega) h1
    have : (splitL 32 s)[j]'(by omega) = mtxt (l[j]'h2).1 (l[j]'h2).2 := by simp only [hw, List.getElem_map]
    rw [this] at hq2
    have hb := mem_pair hm (l[j]'h2) (List.getElem_mem h2)
    exact PQ_mtxt (a := (l[j]'h2).1) (b := (l[j]'h2).2) (by omega) (by omega) hq2
  subst e
  exact ⟨hm, he, hp⟩
theorem par_oddW {s : List UInt8} {ws : List (List UInt8)} (hws : ws = splitL 32 s) {k : Nat} (hk : k < ws.length) (h : (splitL 64 (ws[k]'hk)).length ≠ 2) : parB s = false := by
  subst hws; exact par_odd hk h
theorem par_outW {s : List UInt8} {ws : List (List UInt8)} (hws : ws = splitL 32 s) {out : List (Int × Int)} (hl : out.length = ws.length) (hq : ∀ j (h1 : j < ws.length) (h2 : j < out.length), PQ (ws[j]'h1) (out[j]'h2)) (h : parB s = true) : musOk out = true ∧ mutx out out.length = s ∧ parL s = out := by
  subst hws; exact par_out hl hq h

set_option maxHeartbeats 4000000 in
theorem specParse_any (s : List UInt8) (hs : s.length ≤ 1048576) (w : World) :
    Calls Try.prog 39 #[.string (bs s)] w fun e w' => ∃ v, e = .returned (.tuple #[v, .bool (parB s)]) ∧ OwnPairs 46 w' w.heap.size v (parL s) ∧ Below w.heap.size w w' := by
  obtain ⟨j0, hi, hz0, hz1, hz2⟩ := info_parts Try.infoMeasure
  have HI := Lib.hid hi
  have HZ0 := Lib.hid hz0
  have HZ1 := Lib.hid hz1
  have HZ2 := Lib.hid hz2
  clear hi hz0 hz1 hz2
  have hwl := splitL_length 32 s
  obtain ⟨ws, hws⟩ : ∃ ws, ws = splitL 32 s := ⟨_, rfl⟩
  have HS1 := Lib.hid (fun W => l1Split_any s 32 32 rfl hs W)
  have hmany := par_many (s := s)
  have hodd := fun k (hk : k < ws.length) => par_oddW hws hk
  have hout := fun out (hl : out.length = ws.length) hq => par_outW (out := out) hws hl hq
  rw [← hws] at HS1 hwl hmany
  have HM := Lib.hid hmany
  have HO := Lib.hid hodd
  have HU := Lib.hid hout
  have HWS := Lib.hid (show ∀ x ∈ ws, x.length ≤ s.length from by rw [hws]; exact splitL_len)
  clear hws hmany hodd hout
  obtain ⟨hw1, hw2⟩ := hwl
  go_enter Try.func39, Try.ntmps39
  by_cases hmn : 40 < ws.length
  · have e1 := HM.out hmn
    have e2 := par_no e1
    have E1 := Lib.hid e1
    have E2 := Lib.hid e2
    clear e1 e2
    go_wp2_with (go_at_call 63; (with_reducible refine (HS1.out _).mono ?_); rintro e w1 ⟨v0, rfl, ho1, hb1⟩; obtain ⟨a0, cap0, rfl, hA0⟩ := strs_view ho1; have HO1 := Lib.hid ho1; clear ho1 hA0; have hs1 := hb1.size)
    go_ret2
    exact ⟨_, by rw [E1.out]; rfl, by rw [E2.out]; exact own_nil _ _ _, (by repeat (first | exact Below.refl _ _ | assumption | refine Below.drew ?_ | refine below_drewN ?_ _ | refine Below.alloc ?_ (by first | omega | (simp; done) | (simp; omega)) _ | refine Below.setCell ?_ (by first | omega | (simp; done) | (simp; omega)) _ | refine Below.trans ?_ (Below.mono (by assumption) (by first | omega | (simp; done) | (simp; omega)))))⟩
  · have hmn2 : decide ((40 : Int) < (ws.length : Int)) = false := decide_eq_false (by omega)
    have hmn3 : ¬ (40 : Int) < (ws.length : Int) := by omega
    go_wp2_with (go_at_call 63; (with_reducible refine (HS1.out _).mono ?_); rintro e w1 ⟨v0, rfl, ho1, hb1⟩; obtain ⟨a0, cap0, rfl, hA0⟩ := strs_view ho1; have HA0 := Lib.hid hA0; clear ho1 hA0; have hs1 := hb1.size)
    go_loopw [5, 16] (fun ov i wr => ∃ (k : Nat) (vo : Value) (out : List (Int × Int)), k ≤ ws.length ∧ i = .int .i64 k ∧ ov = vo ∧ out.length = k ∧ wr.ownsRow w1.heap.size 46 2 vo k (pairV out) ∧ Hid (∀ j (h1 : j < ws.length) (h2 : j < out.length), PQ (ws[j]'h1) (out[j]'h2)) ∧ Below w1.heap.size w1 wr) (fun _ i _ => ws.length - (intOf i).toNat)
    case atStart => exact ⟨0, _, [], Nat.zero_le _, rfl, rfl, rfl, ⟨rfl, .inl ⟨rfl, rfl⟩⟩, Lib.hid (fun j _ h2 => absurd h2 (Nat.not_lt_zero j)), Below.refl _ _⟩
    case round =>
      obtain ⟨k, vo, out, hk, rfl, hv, hol, hown, hq, hbr⟩ := hrel
      replace hv := hv.symm
      subst hv
      have hsr := hbr.size
      have hbw : Below w.heap.size w wr := (by repeat (first | exact Below.refl _ _ | assumption | refine Below.drew ?_ | refine below_drewN ?_ _ | refine Below.alloc ?_ (by first | omega | (simp; done) | (simp; omega)) _ | refine Below.setCell ?_ (by first | omega | (simp; done) | (simp; omega)) _ | refine Below.trans ?_ (Below.mono (by assumption) (by first | omega | (simp; done) | (simp; omega)))))
      have HOL := Lib.hid (World.ownsRow.lt hown)
      have HOWN := Lib.hid (fun (W : World) (hb : Below wr.heap.size wr W) => own_below hown hb)
      by_cases hlt : k < ws.length
      · obtain ⟨g, rfl, c0⟩ := HA0.out k hlt
        obtain ⟨wd, hwd⟩ : ∃ wd, wd = ws[k]'hlt := ⟨_, rfl⟩
        have hwl : wd.length ≤ 1048576 := by have := HWS.out _ (List.getElem_mem hlt); rw [hwd]; omega
        rw [← hwd] at c0
        have hodd := HO.out k hlt
        rw [← hwd] at hodd
        have c1 : wr.cell? ⟨g, k, none⟩ = some (.string (bs wd)) := (hbr.cell (World.block_lt_of_cell? w1 _ c0)).trans c0
        have i0 : (0 : Int) ≤ (k : Int) := by omega
        have i1 : (k : Int) < (ws.length : Int) := by omega
        by_cases h2 : (splitL 64 wd).length = 2
        · obtain ⟨x, y, hxy⟩ := two_of h2
          have HF := Lib.hid (fun W => l1Split_form wd 64 64 rfl hwl hxy (n := 2) rfl W)
          have hnew : PQ wd (readL x, readL y) := ⟨x, y, hxy, rfl⟩
          have hq2 : ∀ j (h1 : j < ws.length) (h2 : j < (out ++ [(readL x, readL y)]).length), PQ (ws[j]'h1) ((out ++ [(readL x, readL y)])[j]'h2) := by
            intro j h1 h2
            by_cases e : j < out.length
            · rw [List.getElem_append_left e]; exact hq.out j h1 e
            · have e2 : j = k := by simp at h2; omega
              subst e2
              rw [List.getElem_append_right (by omega)]
              simp only [hol, Nat.sub_self, List.getElem_cons_zero]
              rw [← hwd]
              exact hnew
          have HQ2 := Lib.hid hq2
          obtain ⟨rx, hrx⟩ : ∃ r, r = readL x := ⟨_, rfl⟩
          obtain ⟨ry, hry⟩ : ∃ r, r = readL y := ⟨_, rfl⟩
          have HRX := Lib.hid (fun W => l1Read_any x W)
          have HRY := Lib.hid (fun W => l1Read_any y W)
          rw [← hrx, ← hry] at HQ2
          simp only [← hrx] at HRX
          simp only [← hry] at HRY
          clear hxy h2 hodd hnew hq2 hrx hry hwd c0 hown hq
          go_wp2_with (go_at_call 63; (with_reducible refine (HF.out _).mono ?_); rintro e w2 ⟨g2, cap2, rfl, hg2a, hg2b, hcells, hb2⟩; have d0 : w2.cell? ⟨g2, 0, none⟩ = some (.string (bs x)) := hcells 0 (by simp); have d1 : w2.cell? ⟨g2, 1, none⟩ = some (.string (bs y)) := hcells 1 (by simp); clear hcells; have hs2 := hb2.size)
          have ag : vo.ownBlock ≠ some g2 := fun e => by have := HOL.out _ e; omega
          go_region_held3 (fun w' => w'.cell? ⟨g2, 0, none⟩ = some (.string (bs x)) ∧ w'.cell? ⟨g2, 1, none⟩ = some (.string (bs y)) ∧ g2 < w'.heap.size)
            (first | (refine ⟨?_, ?_, ?_⟩ <;> first | (go_keep; done) | (simp [*, World.cell?_alloc_past, World.cell?_setCell_far]; done) | (simp [*, World.cell?_alloc_past, World.cell?_alloc_at, World.cell?_setCell_far]; done) | (go_simp; done)) | (refine ⟨?_, ?_, ?_⟩ <;> first | (rw [hgrow5.cell_far _ (by simp; omega) (Ne.symm ag)]; first | assumption | (go_simp; done)) | (have hq5 := hgrow5.size; (try simp at hq5); omega)))
            (first | (go_at_call 64; ((with_reducible refine (HRX.out _).mono ?_); rintro e w3 ⟨rfl, hb3⟩; have hs3 := hb3.size; have q0 : w3.cell? ⟨g2, 0, none⟩ = _ := hb3.cell (p := ⟨g2, 0, none⟩) (by first | omega | (simp; done) | (simp; omega)); have q1 : w3.cell? ⟨g2, 1, none⟩ = _ := hb3.cell (p := ⟨g2, 1, none⟩) (by first | omega | (simp; done) | (simp; omega)); have q2 : g2 < w3.heap.size := (by have hq := hb3.size; (try simp at hq); omega))) | (go_at_call 64; ((with_reducible refine (HRY.out _).mono ?_); rintro e w3 ⟨rfl, hb3⟩; have hs3 := hb3.size; have q0 : w3.cell? ⟨g2, 0, none⟩ = _ := hb3.cell (p := ⟨g2, 0, none⟩) (by first | omega | (simp; done) | (simp; omega)); have q1 : w3.cell? ⟨g2, 1, none⟩ = _ := hb3.cell (p := ⟨g2, 1, none⟩) (by first | omega | (simp; done) | (simp; omega)); have q2 : g2 < w3.heap.size := (by have hq := hb3.size; (try simp at hq); omega))) | ((refine step_append_lies _ (by rfl) _ _ 25 (by rfl) w1.heap.size 46 j0 (.agg #[.int .i64 0, .int .i64 0]) 2 16 Try.underlying25 HI.out HZ0.out HZ1.out HZ2.out rfl (by omega) vo k (pairV out) (by rfl) (HOWN.out _ (by repeat (first | exact Below.refl _ _ | assumption | refine Below.drew ?_ | refine below_drewN ?_ _ | refine Below.alloc ?_ (by first | omega | (simp; done) | (simp; omega)) _ | refine Below.setCell ?_ (by first | omega | (simp; done) | (simp; omega)) _ | refine Below.trans ?_ (Below.mono (by assumption) (by first | omega | (simp; done) | (simp; omega)))))) ⟨_, 0, none⟩ 1 1 [.int .i64 rx, .int .i64 ry] (by rfl) (by rfl) (World.news_of_block (cs := #[.int .i64 rx, .int .i64 ry]) (t := 46) (fr := (0, 0)) (heap_alloc_new _ _)) (by simp [Value.oneCell']) (by omega) (by unfold maxLen; omega) (by omega) (by simp; omega) _ rfl ?_; intro gg cap w5 hown5 hgrow5 hat5 hlt5)))
          all_goals
            have hb5 : Below w1.heap.size w1 w5 := Below.grown (by repeat (first | exact Below.refl _ _ | assumption | refine Below.drew ?_ | refine below_drewN ?_ _ | refine Below.alloc ?_ (by first | omega | (simp; done) | (simp; omega)) _ | refine Below.setCell ?_ (by first | omega | (simp; done) | (simp; omega)) _ | refine Below.trans ?_ (Below.mono (by assumption) (by first | omega | (simp; done) | (simp; omega))))) hgrow5 (by first | (simp; omega) | omega) (fun q hq => (HOL.out q hq).1)
            have hown6 : w5.ownsRow w1.heap.size 46 2 (.slice (some ⟨gg, 0, none⟩) (k + 1) cap) (k + 1) (pairV (out ++ [(rx, ry)])) := by rw [pairV_append]; simpa [pairV] using hown5
            have HO6 := Lib.hid hown6
            clear hat5 hgrow5 hown5 hown6
            have hs5 := hb5.size
            go_wp2
            go_roundw
            case rel => exact ⟨k + 1, _, out ++ [(rx, ry)], by omega, by go_num, rfl, by simp; omega, HO6.out, HQ2, (by repeat (first | exact Below.refl _ _ | assumption | refine Below.drew ?_ | refine below_drewN ?_ _ | refine Below.alloc ?_ (by first | omega | (simp; done) | (simp; omega)) _ | refine Below.setCell ?_ (by first | omega | (simp; done) | (simp; omega)) _ | refine Below.trans ?_ (Below.mono (by assumption) (by first | omega | (simp; done) | (simp; omega)))))⟩
            case measure => simp [intOf]; omega
        · have e1 := hodd h2
          have e2 := par_no e1
          have E1 := Lib.hid e1
          have E2 := Lib.hid e2
          have n2 : ((splitL 64 wd).length : Int) ≠ 2 := by omega
          have n3 : (((splitL 64 wd).length : Int) == 2) = false := beq_eq_false_iff_ne.2 n2
          have HS2 := Lib.hid (fun W => l1Split_any wd 64 64 rfl hwl W)
          obtain ⟨ps, hps⟩ : ∃ ps, ps = splitL 64 wd := ⟨_, rfl⟩
          rw [← hps] at n2 n3 HS2
          clear e1 e2 hodd h2 hps hwd c0 hown hq
          go_wp2_with (go_at_call 63; (with_reducible refine (HS2.out _).mono ?_); rintro e w2 ⟨v2, rfl, ho2, hb2⟩; obtain ⟨a2, cap2, rfl, hA2⟩ := strs_view ho2; clear ho2 hA2; have hs2 := hb2.size)
          go_ret2
          exact ⟨_, by rw [E1.out]; rfl, by rw [E2.out]; exact own_nil _ _ _, (by repeat (first | exact Below.refl _ _ | assumption | refine Below.drew ?_ | refine below_drewN ?_ _ | refine Below.alloc ?_ (by first | omega | (simp; done) | (simp; omega)) _ | refine Below.setCell ?_ (by first | omega | (simp; done) | (simp; omega)) _ | refine Below.trans ?_ (Below.mono (by assumption) (by first | omega | (simp; done) | (simp; omega)))))⟩
      · obtain rfl : k = ws.length := by omega
        have hu := HU.out out hol hq.out
        have ho7 : OwnPairs 46 wr w1.heap.size vo out := by rw [OwnPairs, hol]; exact hown
        obtain ⟨a7, cap7, rfl, I7, hA7⟩ := own_viewP ho7
        have HGD := Lib.hid (fun (W : World) (hb : Below wr.heap.size wr W) => muGood_any a7 cap7 out (by omega) (I7.below hb))
        have HO7 := Lib.hid ho7
        clear hown hA7 hq hol
        cases hm : musOk out
        · have e1 : parB s = false := by
            cases e : parB s
            · rfl
            · have := (hu e).1; rw [hm] at this; cases this
          have e2 := par_no e1
          have E1 := Lib.hid e1
          have E2 := Lib.hid e2
          clear e1 e2 hu I7 ho7
          go_wp2_with (go_at_call 41; (with_reducible refine (HGD.out _ (by repeat (first | exact Below.refl _ _ | assumption | refine Below.drew ?_ | refine below_drewN ?_ _ | refine Below.alloc ?_ (by first | omega | (simp; done) | (simp; omega)) _ | refine Below.setCell ?_ (by first | omega | (simp; done) | (simp; omega)) _ | refine Below.trans ?_ (Below.mono (by assumption) (by first | omega | (simp; done) | (simp; omega)))))).mono ?_); rintro e w2 ⟨rfl, hb2⟩; have hs2 := hb2.size)
          go_ret2
          exact ⟨_, by rw [E1.out]; rfl, by rw [E2.out]; exact own_nil _ _ _, (by repeat (first | exact Below.refl _ _ | assumption | refine Below.drew ?_ | refine below_drewN ?_ _ | refine Below.alloc ?_ (by first | omega | (simp; done) | (simp; omega)) _ | refine Below.setCell ?_ (by first | omega | (simp; done) | (simp; omega)) _ | refine Below.trans ?_ (Below.mono (by assumption) (by first | omega | (simp; done) | (simp; omega)))))⟩
        · have HTX := Lib.hid (fun (W : World) (hb : Below wr.heap.size wr W) => muText_any a7 cap7 out hm (I7.below hb))
          by_cases ht : mutx out out.length = s
          · obtain ⟨e1, e2⟩ := par_yes hm ht
            have E1 := Lib.hid e1
            have E2 := Lib.hid e2
            unfold muT at HTX
            rw [ht] at HTX
            clear e1 e2 hu I7 ho7 ht
            go_wp2_with (first | (go_at_call 41; (with_reducible refine (HGD.out _ (by repeat (first | exact Below.refl _ _ | assumption | refine Below.drew ?_ | refine below_drewN ?_ _ | refine Below.alloc ?_ (by first | omega | (simp; done) | (simp; omega)) _ | refine Below.setCell ?_ (by first | omega | (simp; done) | (simp; omega)) _ | refine Below.trans ?_ (Below.mono (by assumption) (by first | omega | (simp; done) | (simp; omega)))))).mono ?_); rintro e w2 ⟨rfl, hb2⟩; have hs2 := hb2.size) | (go_at_call 65; (with_reducible refine (HTX.out _ (by repeat (first | exact Below.refl _ _ | assumption | refine Below.drew ?_ | refine below_drewN ?_ _ | refine Below.alloc ?_ (by first | omega | (simp; done) | (simp; omega)) _ | refine Below.setCell ?_ (by first | omega | (simp; done) | (simp; omega)) _ | refine Below.trans ?_ (Below.mono (by assumption) (by first | omega | (simp; done) | (simp; omega)))))).mono ?_); rintro e w3 ⟨rfl, hb3⟩; have hs3 := hb3.size))
            go_ret2
            exact ⟨_, by rw [E1.out]; rfl, by rw [E2.out]; exact own_mono (own_below HO7.out (by repeat (first | exact Below.refl _ _ | assumption | refine Below.drew ?_ | refine below_drewN ?_ _ | refine Below.alloc ?_ (by first | omega | (simp; done) | (simp; omega)) _ | refine Below.setCell ?_ (by first | omega | (simp; done) | (simp; omega)) _ | refine Below.trans ?_ (Below.mono (by assumption) (by first | omega | (simp; done) | (simp; omega)))))) (by omega), (by repeat (first | exact Below.refl _ _ | assumption | refine Below.drew ?_ | refine below_drewN ?_ _ | refine Below.alloc ?_ (by first | omega | (simp; done) | (simp; omega)) _ | refine Below.setCell ?_ (by first | omega | (simp; done) | (simp; omega)) _ | refine Below.trans ?_ (Below.mono (by assumption) (by first | omega | (simp; done) | (simp; omega)))))⟩
          · have e1 : parB s = false := by
              cases e : parB s
              · rfl
              · exact absurd (hu e).2.1 ht
            have e2 := par_no e1
            have E1 := Lib.hid e1
            have E2 := Lib.hid e2
            unfold muT at HTX
            obtain ⟨tx, htx⟩ : ∃ tx, tx = mutx out out.length := ⟨_, rfl⟩
            rw [← htx] at HTX ht
            have hn1 : ¬ (bs tx).toList = (bs s).toList := by rw [bs_toL, bs_toL]; exact ht
            have hn2 : ((bs tx).toList == (bs s).toList) = false := beq_eq_false_iff_ne.2 hn1
            have hn3 : ((bs tx).toList != (bs s).toList) = true := by show (!((bs tx).toList == (bs s).toList)) = true; rw [hn2]; rfl
            clear e1 e2 hu I7 ho7 ht htx
            go_wp2_with (first | (go_at_call 41; (with_reducible refine (HGD.out _ (by repeat (first | exact Below.refl _ _ | assumption | refine Below.drew ?_ | refine below_drewN ?_ _ | refine Below.alloc ?_ (by first | omega | (simp; done) | (simp; omega)) _ | refine Below.setCell ?_ (by first | omega | (simp; done) | (simp; omega)) _ | refine Below.trans ?_ (Below.mono (by assumption) (by first | omega | (simp; done) | (simp; omega)))))).mono ?_); rintro e w2 ⟨rfl, hb2⟩; have hs2 := hb2.size) | (go_at_call 65; (with_reducible refine (HTX.out _ (by repeat (first | exact Below.refl _ _ | assumption | refine Below.drew ?_ | refine below_drewN ?_ _ | refine Below.alloc ?_ (by first | omega | (simp; done) | (simp; omega)) _ | refine Below.setCell ?_ (by first | omega | (simp; done) | (simp; omega)) _ | refine Below.trans ?_ (Below.mono (by assumption) (by first | omega | (simp; done) | (simp; omega)))))).mono ?_); rintro e w3 ⟨rfl, hb3⟩; have hs3 := hb3.size))
            go_ret2
            exact ⟨_, by rw [E1.out]; rfl, by rw [E2.out]; exact own_nil _ _ _, (by repeat (first | exact Below.refl _ _ | assumption | refine Below.drew ?_ | refine below_drewN ?_ _ | refine Below.alloc ?_ (by first | omega | (simp; done) | (simp; omega)) _ | refine Below.setCell ?_ (by first | omega | (simp; done) | (simp; omega)) _ | refine Below.trans ?_ (Below.mono (by assumption) (by first | omega | (simp; done) | (simp; omega)))))⟩

end Go.Proofs.Ytbpphcdhbbhjpaa
