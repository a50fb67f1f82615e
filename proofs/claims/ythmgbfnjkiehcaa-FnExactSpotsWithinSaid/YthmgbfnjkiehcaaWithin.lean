/- The spots of a list that are near enough: what each call does. No conditions but those written in each theorem. -/
import Derived.Test.YthmgbfnjkiehcaaNear
import Derived.Test.YthmgbfnjkiehcaaInts
import Derived.Deep.RegionHeld3
import Derived.Deep.DrawnRows
namespace Go.Proofs.Ythmgbfnjkiehcaa
open Go.RowKit


attribute [local go_sem ↓] Go.wp_at_zero Go.wp_at_succ

/-- The indices, of the first k spots, of those near enough. -/
def wn (x y sq : Int) (l : List (Int × Int)) : Nat → List Int
  | 0 => []
  | k + 1 => if sqr x y (sx l k) (sy l k) ≤ sq then wn x y sq l k ++ [(k : Int)] else wn x y sq l k
theorem wn_length (x y sq : Int) (l : List (Int × Int)) : ∀ k, (wn x y sq l k).length ≤ k
  | 0 => Nat.le_refl _
  | k + 1 => by
    have := wn_length x y sq l k
    unfold wn
    split <;> simp <;> omega
theorem wn_yes {x y sq : Int} {l : List (Int × Int)} {k : Nat} (h : sqr x y (sx l k) (sy l k) ≤ sq) : wn x y sq l (k + 1) = wn x y sq l k ++ [(k : Int)] := by show (if _ then _ else _) = _; rw [if_pos h]
theorem wn_no {x y sq : Int} {l : List (Int × Int)} {k : Nat} (h : ¬ sqr x y (sx l k) (sy l k) ≤ sq) : wn x y sq l (k + 1) = wn x y sq l k := by show (if _ then _ else _) = _; rw [if_neg h]
def canWithin (x y sq : Int) (l : List (Int × Int)) : Bool := onField x y && okList l && inB 0 sq 3000000
/-- SpotsWithin's list. -/
def within (x y sq : Int) (l : List (Int × Int)) : List Int := if canWithin x y sq l then wn x y sq l l.length else []
def WithinPost (x y sq : Int) (l : List (Int × Int)) (w : World) (e : Ending) (w' : World) : Prop :=
  ∃ v, e = .returned (.tuple #[v, .bool (canWithin x y sq l)]) ∧ OwnInts w' w.heap.size v (within x y sq l) ∧ Below w.heap.size w w'
theorem Try.infoInt : (Try.prog.info? 3).map (fun i => (i.zero, i.size, i.bytes)) = some (some (.int .i64 0), 1, 8) := by kernel_rfl
theorem own_step {w w1 w2 : World} {base nb : Nat} {v v' : Value} {xs : List Int} {n : Int} (hb : Below base w w1) (hB : nb ≤ w1.heap.size) (hbn : base ≤ nb) (hown : OwnInts w1 nb v xs)
    (hown' : w2.ownsRow nb 3 1 v' (xs.length + 1) (xs.map (Value.int .i64) ++ [.int .i64 n])) (hg : (w1.alloc (.cells #[.int .i64 n] 3)).grownBy w2 v.ownBlock) :
    OwnInts w2 nb v' (xs ++ [n]) ∧ Below base w w2 ∧ (∀ b o u, b < nb → w1.cell? ⟨b, o, none⟩ = some u → w2.cell? ⟨b, o, none⟩ = some u) ∧ w1.heap.size < w2.heap.size := by
  have hlt := World.ownsRow.lt hown
  refine ⟨by simpa [OwnInts] using hown', (hb.alloc (by omega) _).grown hg (by simp; omega) (fun k hk => Nat.le_trans hbn (hlt k hk).1), fun b o u hbb hc => hg.cell ?_ (fun e => by have := (hlt b e.symm).1; omega), ?_⟩
  · rw [World.cell?_alloc_past _ _ _ (World.block_lt_of_cell? w1 _ hc)]
    exact hc
  · have := hg.size
    simp at this
    omega
theorem own_mono {w : World} {b b' : Nat} {v : Value} {xs : List Int} (h : OwnInts w b v xs) (hb : b' ≤ b) : OwnInts w b' v xs := by
  refine ⟨h.1, ?_⟩
  rcases h.2 with h0 | ⟨g, cap, cur, e, hg, r⟩
  · exact .inl h0
  · exact .inr ⟨g, cap, cur, e, Nat.le_trans hb hg, r⟩

set_option maxHeartbeats 1000000 in
theorem specWithin_no (x y sq : Int) (a : Option Addr) (cap : Nat) (l : List (Int × Int)) (hl : l.length ≤ 1048576) {w : World} (ha : SpotsAt w a l) (hv : canWithin x y sq l = false) :
    Calls Try.prog 32 #[.agg #[.int .i64 x, .int .i64 y], .slice a l.length cap, .int .i64 sq] w fun e w' => e = .returned (.tuple #[.slice none 0 0, .bool false]) ∧ Below w.heap.size w w' := by
  have hcl := fun (W : World) (hb : Below w.heap.size w W) => stList_any a cap l hl (ha.below hb)
  have Hcl := Lib.hid hcl
  clear hcl
  obtain ⟨q1, q2, q3, q4, q5, q6, q7⟩ := nadd
  cases h1 : onField x y <;> cases h2 : okList l <;> cases h3 : inB 0 sq 3000000
  all_goals first | (exfalso; unfold canWithin at hv; rw [h1, h2, h3] at hv; cases hv; done) | clear hv
  all_goals
    go_enter Try.func32, Try.ntmps32
    go_wp2_with (first | (go_at_call 42; (refine (stGood_any _ _ _).mono ?_; rintro e w1 ⟨rfl, hb1⟩; have hs1 := hb1.size; (try simp at hs1); obtain ⟨hcn, hfn, hln⟩ := bcellN (w.heap.size + 1) hb1 (by first | omega | (simp; done) | (simp; omega)); have hz0 : w.heap.size < w1.heap.size := (by omega); (first | have hk4 := call_facts hl3 hb1 (by simp) | skip); (first | have hk3 := call_facts hl2 hb1 (by simp) | skip); (first | have hk2 := call_facts hl1 hb1 (by simp) | skip); have hk1 := call_facts (fun b h => h) hb1 (Nat.le_refl _); (first | have hl4 := hk4.1 | skip); (first | have hl3 := hk3.1 | skip); (first | have hl2 := hk2.1 | skip); have hl1 := hk1.1)) | (go_at_call 51; (refine (Hcl.out _ (by repeat (first | exact Below.refl _ _ | assumption | refine Below.drew ?_ | refine below_drewN ?_ _ | refine Below.alloc ?_ (by first | omega | (simp; done) | (simp; omega)) _ | refine Below.setCell ?_ (by first | omega | (simp; done) | (simp; omega)) _ | refine Below.trans ?_ (Below.mono (by assumption) (by first | omega | (simp; done) | (simp; omega)))))).mono ?_; rintro e w1 ⟨rfl, hb1⟩; have hs1 := hb1.size; (try simp at hs1); obtain ⟨hcn, hfn, hln⟩ := bcellN (w.heap.size + 1) hb1 (by first | omega | (simp; done) | (simp; omega)); have hz0 : w.heap.size < w1.heap.size := (by omega); (first | have hk4 := call_facts hl3 hb1 (by simp) | skip); (first | have hk3 := call_facts hl2 hb1 (by simp) | skip); (first | have hk2 := call_facts hl1 hb1 (by simp) | skip); have hk1 := call_facts (fun b h => h) hb1 (Nat.le_refl _); (first | have hl4 := hk4.1 | skip); (first | have hl3 := hk3.1 | skip); (first | have hl2 := hk2.1 | skip); have hl1 := hk1.1)) | (go_at_call 47; (refine (l1In_any _ _ _ _).mono ?_; rintro e w' ⟨rfl, rfl⟩)))
    go_ret2
    exact ⟨rfl, (by repeat (first | exact Below.refl _ _ | assumption | refine Below.drew ?_ | refine below_drewN ?_ _ | refine Below.alloc ?_ (by first | omega | (simp; done) | (simp; omega)) _ | refine Below.setCell ?_ (by first | omega | (simp; done) | (simp; omega)) _ | refine Below.trans ?_ (Below.mono (by assumption) (by first | omega | (simp; done) | (simp; omega)))))⟩

set_option maxHeartbeats 1000000 in
theorem within_no (x y sq : Int) (a : Option Addr) (cap : Nat) (l : List (Int × Int)) (hl : l.length ≤ 1048576) {w : World} (ha : SpotsAt w a l) (hv : canWithin x y sq l = false) :
    Calls Try.prog 33 #[.agg #[.int .i64 x, .int .i64 y], .slice a l.length cap, .int .i64 sq] w fun e w' => e = .returned (.tuple #[.slice none 0 0, .bool false]) ∧ Below w.heap.size w w' := by
  have hcl := fun (W : World) (hb : Below w.heap.size w W) => areSpots_any a cap l hl (ha.below hb)
  have Hcl := Lib.hid hcl
  clear hcl
  obtain ⟨q1, q2, q3, q4, q5, q6, q7⟩ := nadd
  cases h1 : onField x y <;> cases h2 : okList l <;> cases h3 : inB 0 sq 3000000
  all_goals first | (exfalso; unfold canWithin at hv; rw [h1, h2, h3] at hv; cases hv; done) | clear hv
  all_goals
    go_enter Try.func33, Try.ntmps33
    go_wp2_with (first | (go_at_call 15; (refine (isSpot_any _ _ _).mono ?_; rintro e w1 ⟨rfl, hb1⟩; have hs1 := hb1.size; (try simp at hs1); obtain ⟨hcn, hfn, hln⟩ := bcellN (w.heap.size + 2) hb1 (by first | omega | (simp; done) | (simp; omega)); have hz0 : w.heap.size < w1.heap.size := (by omega); have hz1 : w.heap.size + 1 < w1.heap.size := (by omega); (first | have hk4 := call_facts hl3 hb1 (by simp) | skip); (first | have hk3 := call_facts hl2 hb1 (by simp) | skip); (first | have hk2 := call_facts hl1 hb1 (by simp) | skip); have hk1 := call_facts (fun b h => h) hb1 (Nat.le_refl _); (first | have hl4 := hk4.1 | skip); (first | have hl3 := hk3.1 | skip); (first | have hl2 := hk2.1 | skip); have hl1 := hk1.1)) | (go_at_call 52; (refine (Hcl.out _ (by repeat (first | exact Below.refl _ _ | assumption | refine Below.drew ?_ | refine below_drewN ?_ _ | refine Below.alloc ?_ (by first | omega | (simp; done) | (simp; omega)) _ | refine Below.setCell ?_ (by first | omega | (simp; done) | (simp; omega)) _ | refine Below.trans ?_ (Below.mono (by assumption) (by first | omega | (simp; done) | (simp; omega)))))).mono ?_; rintro e w1 ⟨rfl, hb1⟩; have hs1 := hb1.size; (try simp at hs1); obtain ⟨hcn, hfn, hln⟩ := bcellN (w.heap.size + 2) hb1 (by first | omega | (simp; done) | (simp; omega)); have hz0 : w.heap.size < w1.heap.size := (by omega); have hz1 : w.heap.size + 1 < w1.heap.size := (by omega); (first | have hk4 := call_facts hl3 hb1 (by simp) | skip); (first | have hk3 := call_facts hl2 hb1 (by simp) | skip); (first | have hk2 := call_facts hl1 hb1 (by simp) | skip); have hk1 := call_facts (fun b h => h) hb1 (Nat.le_refl _); (first | have hl4 := hk4.1 | skip); (first | have hl3 := hk3.1 | skip); (first | have hl2 := hk2.1 | skip); have hl1 := hk1.1)) | (go_at_call 43; (refine (inRange_any _ _ _ _).mono ?_; rintro e w' ⟨rfl, rfl⟩)))
    go_ret2
    exact ⟨rfl, (by repeat (first | exact Below.refl _ _ | assumption | refine Below.drew ?_ | refine below_drewN ?_ _ | refine Below.alloc ?_ (by first | omega | (simp; done) | (simp; omega)) _ | refine Below.setCell ?_ (by first | omega | (simp; done) | (simp; omega)) _ | refine Below.trans ?_ (Below.mono (by assumption) (by first | omega | (simp; done) | (simp; omega)))))⟩

set_option maxHeartbeats 2000000 in
theorem specWithin_yes (x y sq : Int) (a : Option Addr) (cap : Nat) (l : List (Int × Int)) (hl : l.length ≤ 1048576) {w : World} (ha : SpotsAt w a l) (h1 : onField x y = true) (h2 : okList l = true) (h3 : inB 0 sq 3000000 = true) :
    Calls Try.prog 32 #[.agg #[.int .i64 x, .int .i64 y], .slice a l.length cap, .int .i64 sq] w fun e w' => ∃ v, e = .returned (.tuple #[v, .bool true]) ∧ OwnInts w' w.heap.size v (wn x y sq l l.length) ∧ Below w.heap.size w w' := by
  have hcl := fun (W : World) (hb : Below w.heap.size w W) => stList_any a cap l hl (ha.below hb)
  have Hcl := Lib.hid hcl
  clear hcl
  have hall := (okList_parts h2).1
  have Hall := Lib.hid (allOn_at hall)
  clear hall
  obtain ⟨q1, q2, q3, q4, q5, q6, q7⟩ := nadd
  obtain ⟨j0, hi, hz0, hz1, hz2⟩ := info_parts Try.infoInt
  have HI := Lib.hid hi
  have HZ0 := Lib.hid hz0
  have HZ1 := Lib.hid hz1
  have HZ2 := Lib.hid hz2
  clear hi hz0 hz1 hz2
  go_enter Try.func32, Try.ntmps32
  go_wp2_with (first | (go_at_call 42; (refine (stGood_any _ _ _).mono ?_; rintro e w1 ⟨rfl, hb1⟩; have hs1 := hb1.size; (try simp at hs1); obtain ⟨hcn, hfn, hln⟩ := bcellN (w.heap.size + 1) hb1 (by first | omega | (simp; done) | (simp; omega)); have hz0 : w.heap.size < w1.heap.size := (by omega); (first | have hk4 := call_facts hl3 hb1 (by simp) | skip); (first | have hk3 := call_facts hl2 hb1 (by simp) | skip); (first | have hk2 := call_facts hl1 hb1 (by simp) | skip); have hk1 := call_facts (fun b h => h) hb1 (Nat.le_refl _); (first | have hl4 := hk4.1 | skip); (first | have hl3 := hk3.1 | skip); (first | have hl2 := hk2.1 | skip); have hl1 := hk1.1)) | (go_at_call 51; (refine (Hcl.out _ (by repeat (first | exact Below.refl _ _ | assumption | refine Below.drew ?_ | refine below_drewN ?_ _ | refine Below.alloc ?_ (by first | omega | (simp; done) | (simp; omega)) _ | refine Below.setCell ?_ (by first | omega | (simp; done) | (simp; omega)) _ | refine Below.trans ?_ (Below.mono (by assumption) (by first | omega | (simp; done) | (simp; omega)))))).mono ?_; rintro e w1 ⟨rfl, hb1⟩; have hs1 := hb1.size; (try simp at hs1); obtain ⟨hcn, hfn, hln⟩ := bcellN (w.heap.size + 1) hb1 (by first | omega | (simp; done) | (simp; omega)); have hz0 : w.heap.size < w1.heap.size := (by omega); (first | have hk4 := call_facts hl3 hb1 (by simp) | skip); (first | have hk3 := call_facts hl2 hb1 (by simp) | skip); (first | have hk2 := call_facts hl1 hb1 (by simp) | skip); have hk1 := call_facts (fun b h => h) hb1 (Nat.le_refl _); (first | have hl4 := hk4.1 | skip); (first | have hl3 := hk3.1 | skip); (first | have hl2 := hk2.1 | skip); have hl1 := hk1.1)) | (go_at_call 47; (refine (l1In_any _ _ _ _).mono ?_; rintro e w' ⟨rfl, rfl⟩)))
  go_loopw [8, 26] (fun v i wr => ∃ k : Nat, k ≤ l.length ∧ i = .int .i64 k ∧ OwnInts wr (w.heap.size + 1) v (wn x y sq l k) ∧ wr.cell? ⟨w.heap.size, 0, none⟩ = some (.int .i64 x) ∧ wr.cell? ⟨w.heap.size, 1, none⟩ = some (.int .i64 y) ∧ Below w.heap.size w wr ∧ w.heap.size < wr.heap.size) (fun _ i _ => l.length - (intOf i).toNat)
  case atStart => exact ⟨0, Nat.zero_le _, rfl, World.ownsRow_nil _ _ _ _, by go_simp, by go_simp, (by repeat (first | exact Below.refl _ _ | assumption | refine Below.drew ?_ | refine below_drewN ?_ _ | refine Below.alloc ?_ (by first | omega | (simp; done) | (simp; omega)) _ | refine Below.setCell ?_ (by first | omega | (simp; done) | (simp; omega)) _ | refine Below.trans ?_ (Below.mono (by assumption) (by first | omega | (simp; done) | (simp; omega))))), (by first | omega | (simp; done) | (simp; omega))⟩
  case round =>
    obtain ⟨k, hk, rfl, hown, c0, c1, hbr, hz⟩ := hrel
    have hsr := hbr.size
    (repeat clear hl1); (repeat clear hl2); (repeat clear hl3); (repeat clear hl4); (repeat clear hk1); (repeat clear hk2); (repeat clear hk3); (repeat clear hk4); (repeat clear hcn); (repeat clear hfn); (repeat clear hln); (repeat clear hz0); (repeat clear hz1); (repeat clear hz2); (repeat clear hs1); (repeat clear hb1)
    by_cases hlt : k < l.length
    · obtain ⟨b, off, rfl, c2, c3⟩ := (ha.below hbr) k hlt
      have ok1 := Lib.hid (Hall.out k hlt)
      have hwl := wn_length x y sq l k
      have i0 : (0 : Int) ≤ (k : Int) := by omega
      have i1 : (k : Int) < (l.length : Int) := by omega
      by_cases hc : sqr x y (sx l k) (sy l k) ≤ sq
      · have hnb := wn_yes hc
        have Hnb := Lib.hid hnb
        clear hnb
        go_wp2_with (first | (at_builtin; refine wpList_append_own _ rfl _ _ 44 rfl (w.heap.size + 1) 3 j0 (.int .i64 0) 1 8 Try.underlying44 HI.out HZ0.out HZ1.out HZ2.out rfl (by decide) _ _ _ rfl ((own_below (hown.alloc _) hb1).alloc _) ⟨w1.heap.size, 0, none⟩ 1 1 [.int .i64 (k : Int)] rfl rfl ?c1 ?c2 ?c3 ?c4 ?c5 ?_) | (go_at_call 45; (refine (stSquare_any _ _ _ _ h1 ok1.out _).mono ?_; rintro e w1 ⟨rfl, hb1⟩; have hs1 := hb1.size; (try simp at hs1); (first | have hk4 := call_facts hl3 hb1 (by simp) | skip); (first | have hk3 := call_facts hl2 hb1 (by simp) | skip); (first | have hk2 := call_facts hl1 hb1 (by simp) | skip); have hk1 := call_facts (fun b h => h) hb1 (Nat.le_refl _); (first | have hl4 := hk4.1 | skip); (first | have hl3 := hk3.1 | skip); (first | have hl2 := hk2.1 | skip); have hl1 := hk1.1)))
        case c1 =>
          intro j u hj
          match j, hj with
          | 0, hj => simp at hj; subst hj; simp [Addr.add]
        case c2 => intro u hu; simp at hu; subst hu; rfl
        case c3 => unfold maxLen; omega
        case c4 => omega
        case c5 => simp; omega
        intro v' w2 hown' hgrow _
        have hst := own_step (w := w) (base := w.heap.size) (by repeat (first | exact Below.refl _ _ | assumption | refine Below.drew ?_ | refine below_drewN ?_ _ | refine Below.alloc ?_ (by first | omega | (simp; done) | (simp; omega)) _ | refine Below.setCell ?_ (by first | omega | (simp; done) | (simp; omega)) _ | refine Below.trans ?_ (Below.mono (by assumption) (by first | omega | (simp; done) | (simp; omega))))) (by first | omega | (simp; done) | (simp; omega)) (by omega) (own_below (hown.alloc _) hb1) hown' hgrow
        obtain ⟨ho2, hb2, hc2, hz2⟩ := hst
        have x0 : w1.cell? ⟨w.heap.size, 0, none⟩ = some (.int .i64 x) := by go_simp
        have x1 : w1.cell? ⟨w.heap.size, 1, none⟩ = some (.int .i64 y) := by go_simp
        have z0 := hc2 _ _ _ (by omega) x0
        have z1 := hc2 _ _ _ (by omega) x1
        have zz : w.heap.size < w2.heap.size := by omega
        clear hown' hgrow hc2 x0 x1 hb1 hown
        (repeat clear hl1); (repeat clear hl2); (repeat clear hl3); (repeat clear hl4); (repeat clear hk1); (repeat clear hk2); (repeat clear hk3); (repeat clear hk4); (repeat clear hcn); (repeat clear hfn); (repeat clear hln); (repeat clear hz0); (repeat clear hz1); (repeat clear hz2); (repeat clear hs1); (repeat clear hb1)
        go_wp2
        go_roundw
        case rel => exact ⟨k + 1, by omega, by go_num, by rw [Hnb.out]; exact ho2, z0, z1, hb2, zz⟩
        case measure => simp [intOf]; omega
      · have hnb := wn_no hc
        have Hnb := Lib.hid hnb
        clear hnb
        go_wp2_with (go_at_call 45; (refine (stSquare_any _ _ _ _ h1 ok1.out _).mono ?_; rintro e w1 ⟨rfl, hb1⟩; have hs1 := hb1.size; (try simp at hs1); (first | have hk4 := call_facts hl3 hb1 (by simp) | skip); (first | have hk3 := call_facts hl2 hb1 (by simp) | skip); (first | have hk2 := call_facts hl1 hb1 (by simp) | skip); have hk1 := call_facts (fun b h => h) hb1 (Nat.le_refl _); (first | have hl4 := hk4.1 | skip); (first | have hl3 := hk3.1 | skip); (first | have hl2 := hk2.1 | skip); have hl1 := hk1.1))
        go_roundw
        case rel => exact ⟨k + 1, by omega, by go_num, by rw [Hnb.out]; exact own_below (hown.alloc _) hb1, by go_simp, by go_simp, (by repeat (first | exact Below.refl _ _ | assumption | refine Below.drew ?_ | refine below_drewN ?_ _ | refine Below.alloc ?_ (by first | omega | (simp; done) | (simp; omega)) _ | refine Below.setCell ?_ (by first | omega | (simp; done) | (simp; omega)) _ | refine Below.trans ?_ (Below.mono (by assumption) (by first | omega | (simp; done) | (simp; omega))))), (by first | omega | (simp; done) | (simp; omega))⟩
        case measure => simp [intOf]; omega
    · obtain rfl : k = l.length := by omega
      go_wp2
      go_ret2
      exact ⟨_, rfl, own_mono hown (by omega), (by repeat (first | exact Below.refl _ _ | assumption | refine Below.drew ?_ | refine below_drewN ?_ _ | refine Below.alloc ?_ (by first | omega | (simp; done) | (simp; omega)) _ | refine Below.setCell ?_ (by first | omega | (simp; done) | (simp; omega)) _ | refine Below.trans ?_ (Below.mono (by assumption) (by first | omega | (simp; done) | (simp; omega)))))⟩

set_option maxHeartbeats 2000000 in
theorem nearEnough_any (x y sq u v : Int) (p q : Nat) (h1 : onField x y = true) (h2 : onField u v = true) {w : World} (c0 : w.cell? ⟨p, 0, none⟩ = some (.int .i64 x)) (c1 : w.cell? ⟨p, 1, none⟩ = some (.int .i64 y)) (c2 : w.cell? ⟨q, 0, none⟩ = some (.int .i64 sq)) :
    Calls Try.prog 54 #[.agg #[.int .i64 u, .int .i64 v], .pointer (some ⟨p, 0, none⟩), .pointer (some ⟨q, 0, none⟩)] w fun e w' => e = .returned (.bool (decide (sqr x y u v ≤ sq))) ∧ Below w.heap.size w w' := by
  obtain ⟨q1, q2, q3, q4, q5, q6, q7⟩ := nadd
  have l0 := World.block_lt_of_cell? w _ c0
  have l2 := World.block_lt_of_cell? w _ c2
  have l1 : p ≤ w.heap.size := Nat.le_of_lt l0
  have l3 : q ≤ w.heap.size := Nat.le_of_lt l2
  have hl1 : ∀ b, b < w.heap.size → b < w.heap.size := fun _ h => h
  have hk0 := base_facts w
  go_enter Try.func54, Try.ntmps54
  go_wp2
  go_region_held3 (fun w' => w'.cell? ⟨p, 0, none⟩ = some (.int .i64 x) ∧ w'.cell? ⟨p, 1, none⟩ = some (.int .i64 y) ∧ w'.cell? ⟨q, 0, none⟩ = some (.int .i64 sq) ∧ w'.cell? ⟨w.heap.size, 0, none⟩ = some (.int .i64 u) ∧ w'.cell? ⟨w.heap.size, 1, none⟩ = some (.int .i64 v)) (refine ⟨?_, ?_, ?_, ?_, ?_⟩ <;> first | (go_keep; done) | (simp [*, World.cell?_alloc_past, World.cell?_setCell_far]; done) | (simp [*, World.cell?_alloc_past, World.cell?_alloc_at, World.cell?_setCell_far]; done) | (go_simp; done))
    (first | (go_at_call 46; (refine (squareBetween_any _ _ _ _ h1 h2 _).mono ?_; rintro e w1 ⟨rfl, hb1⟩; have hs1 := hb1.size; (try simp at hs1); (first | have hk4 := call_facts hl3 hb1 (by simp) | skip); (first | have hk3 := call_facts hl2 hb1 (by simp) | skip); (first | have hk2 := call_facts hl1 hb1 (by simp) | skip); have hk1 := call_facts (fun b h => h) hb1 (Nat.le_refl _); (first | have hl4 := hk4.1 | skip); (first | have hl3 := hk3.1 | skip); (first | have hl2 := hk2.1 | skip); have hl1 := hk1.1)))
  go_wp2
  go_ret
  exact ⟨rfl, (by repeat (first | exact Below.refl _ _ | assumption | refine Below.drew ?_ | refine below_drewN ?_ _ | refine Below.alloc ?_ (by first | omega | (simp; done) | (simp; omega)) _ | refine Below.setCell ?_ (by first | omega | (simp; done) | (simp; omega)) _ | refine Below.trans ?_ (Below.mono (by assumption) (by first | omega | (simp; done) | (simp; omega)))))⟩

set_option maxHeartbeats 2000000 in
theorem within_yes (x y sq : Int) (a : Option Addr) (cap : Nat) (l : List (Int × Int)) (hl : l.length ≤ 1048576) {w : World} (ha : SpotsAt w a l) (h1 : onField x y = true) (h2 : okList l = true) (h3 : inB 0 sq 3000000 = true) :
    Calls Try.prog 33 #[.agg #[.int .i64 x, .int .i64 y], .slice a l.length cap, .int .i64 sq] w fun e w' => ∃ v, e = .returned (.tuple #[v, .bool true]) ∧ OwnInts w' w.heap.size v (wn x y sq l l.length) ∧ Below w.heap.size w w' := by
  have hcl := fun (W : World) (hb : Below w.heap.size w W) => areSpots_any a cap l hl (ha.below hb)
  have Hcl := Lib.hid hcl
  clear hcl
  have hall := (okList_parts h2).1
  have Hall := Lib.hid (allOn_at hall)
  clear hall
  obtain ⟨q1, q2, q3, q4, q5, q6, q7⟩ := nadd
  obtain ⟨j0, hi, hz0, hz1, hz2⟩ := info_parts Try.infoInt
  have HI := Lib.hid hi
  have HZ0 := Lib.hid hz0
  have HZ1 := Lib.hid hz1
  have HZ2 := Lib.hid hz2
  clear hi hz0 hz1 hz2
  go_enter Try.func33, Try.ntmps33
  go_wp2_with (first | (go_at_call 15; (refine (isSpot_any _ _ _).mono ?_; rintro e w1 ⟨rfl, hb1⟩; have hs1 := hb1.size; (try simp at hs1); obtain ⟨hcn, hfn, hln⟩ := bcellN (w.heap.size + 2) hb1 (by first | omega | (simp; done) | (simp; omega)); have hz0 : w.heap.size < w1.heap.size := (by omega); have hz1 : w.heap.size + 1 < w1.heap.size := (by omega); (first | have hk4 := call_facts hl3 hb1 (by simp) | skip); (first | have hk3 := call_facts hl2 hb1 (by simp) | skip); (first | have hk2 := call_facts hl1 hb1 (by simp) | skip); have hk1 := call_facts (fun b h => h) hb1 (Nat.le_refl _); (first | have hl4 := hk4.1 | skip); (first | have hl3 := hk3.1 | skip); (first | have hl2 := hk2.1 | skip); have hl1 := hk1.1)) | (go_at_call 52; (refine (Hcl.out _ (by repeat (first | exact Below.refl _ _ | assumption | refine Below.drew ?_ | refine below_drewN ?_ _ | refine Below.alloc ?_ (by first | omega | (simp; done) | (simp; omega)) _ | refine Below.setCell ?_ (by first | omega | (simp; done) | (simp; omega)) _ | refine Below.trans ?_ (Below.mono (by assumption) (by first | omega | (simp; done) | (simp; omega)))))).mono ?_; rintro e w1 ⟨rfl, hb1⟩; have hs1 := hb1.size; (try simp at hs1); obtain ⟨hcn, hfn, hln⟩ := bcellN (w.heap.size + 2) hb1 (by first | omega | (simp; done) | (simp; omega)); have hz0 : w.heap.size < w1.heap.size := (by omega); have hz1 : w.heap.size + 1 < w1.heap.size := (by omega); (first | have hk4 := call_facts hl3 hb1 (by simp) | skip); (first | have hk3 := call_facts hl2 hb1 (by simp) | skip); (first | have hk2 := call_facts hl1 hb1 (by simp) | skip); have hk1 := call_facts (fun b h => h) hb1 (Nat.le_refl _); (first | have hl4 := hk4.1 | skip); (first | have hl3 := hk3.1 | skip); (first | have hl2 := hk2.1 | skip); have hl1 := hk1.1)) | (go_at_call 43; (refine (inRange_any _ _ _ _).mono ?_; rintro e w' ⟨rfl, rfl⟩)))
  go_loopw [9, 28] (fun v i wr => ∃ k : Nat, k ≤ l.length ∧ i = .int .i64 k ∧ OwnInts wr (w.heap.size + 2) v (wn x y sq l k) ∧ wr.cell? ⟨w.heap.size, 0, none⟩ = some (.int .i64 x) ∧ wr.cell? ⟨w.heap.size, 1, none⟩ = some (.int .i64 y) ∧ wr.cell? ⟨w.heap.size + 1, 0, none⟩ = some (.int .i64 sq) ∧ Below w.heap.size w wr ∧ w.heap.size + 1 < wr.heap.size) (fun _ i _ => l.length - (intOf i).toNat)
  case atStart => exact ⟨0, Nat.zero_le _, rfl, World.ownsRow_nil _ _ _ _, by go_simp, by go_simp, by go_simp, (by repeat (first | exact Below.refl _ _ | assumption | refine Below.drew ?_ | refine below_drewN ?_ _ | refine Below.alloc ?_ (by first | omega | (simp; done) | (simp; omega)) _ | refine Below.setCell ?_ (by first | omega | (simp; done) | (simp; omega)) _ | refine Below.trans ?_ (Below.mono (by assumption) (by first | omega | (simp; done) | (simp; omega))))), (by first | omega | (simp; done) | (simp; omega))⟩
  case round =>
    obtain ⟨k, hk, rfl, hown, c0, c1, c4, hbr, hz⟩ := hrel
    have hsr := hbr.size
    (repeat clear hl1); (repeat clear hl2); (repeat clear hl3); (repeat clear hl4); (repeat clear hk1); (repeat clear hk2); (repeat clear hk3); (repeat clear hk4); (repeat clear hcn); (repeat clear hfn); (repeat clear hln); (repeat clear hz0); (repeat clear hz1); (repeat clear hz2); (repeat clear hs1); (repeat clear hb1)
    by_cases hlt : k < l.length
    · obtain ⟨b, off, rfl, c2, c3⟩ := (ha.below hbr) k hlt
      have hwl := wn_length x y sq l k
      have lz : w.heap.size < wr.heap.size := by omega
      have hne := fun (W : World) => nearEnough_any x y sq (sx l k) (sy l k) w.heap.size (w.heap.size + 1) h1 (Hall.out k hlt) (w := W)
      have Hne := Lib.hid hne
      clear hne
      have i0 : (0 : Int) ≤ (k : Int) := by omega
      have i1 : (k : Int) < (l.length : Int) := by omega
      by_cases hc : sqr x y (sx l k) (sy l k) ≤ sq
      · have hnb := wn_yes hc
        have Hnb := Lib.hid hnb
        clear hnb
        go_wp2_with (first | (at_builtin; refine wpList_append_own _ rfl _ _ 44 rfl (w.heap.size + 2) 3 j0 (.int .i64 0) 1 8 Try.underlying44 HI.out HZ0.out HZ1.out HZ2.out rfl (by decide) _ _ _ rfl ((own_below (hown.alloc _) hb1).alloc _) ⟨w1.heap.size, 0, none⟩ 1 1 [.int .i64 (k : Int)] rfl rfl ?c1 ?c2 ?c3 ?c4 ?c5 ?_) | (go_at_call 54; (refine (Hne.out _ (by go_simp) (by go_simp) (by go_simp)).mono ?_; rintro e w1 ⟨rfl, hb1⟩; have hs1 := hb1.size; (try simp at hs1); (first | have hk4 := call_facts hl3 hb1 (by simp) | skip); (first | have hk3 := call_facts hl2 hb1 (by simp) | skip); (first | have hk2 := call_facts hl1 hb1 (by simp) | skip); have hk1 := call_facts (fun b h => h) hb1 (Nat.le_refl _); (first | have hl4 := hk4.1 | skip); (first | have hl3 := hk3.1 | skip); (first | have hl2 := hk2.1 | skip); have hl1 := hk1.1)))
        case c1 =>
          intro j u hj
          match j, hj with
          | 0, hj => simp at hj; subst hj; simp [Addr.add]
        case c2 => intro u hu; simp at hu; subst hu; rfl
        case c3 => unfold maxLen; omega
        case c4 => omega
        case c5 => simp; omega
        intro v' w2 hown' hgrow _
        have hst := own_step (w := w) (base := w.heap.size) (by repeat (first | exact Below.refl _ _ | assumption | refine Below.drew ?_ | refine below_drewN ?_ _ | refine Below.alloc ?_ (by first | omega | (simp; done) | (simp; omega)) _ | refine Below.setCell ?_ (by first | omega | (simp; done) | (simp; omega)) _ | refine Below.trans ?_ (Below.mono (by assumption) (by first | omega | (simp; done) | (simp; omega))))) (by first | omega | (simp; done) | (simp; omega)) (by omega) (own_below (hown.alloc _) hb1) hown' hgrow
        obtain ⟨ho2, hb2, hc2, hz2⟩ := hst
        have x0 : w1.cell? ⟨w.heap.size, 0, none⟩ = some (.int .i64 x) := by go_simp
        have x1 : w1.cell? ⟨w.heap.size, 1, none⟩ = some (.int .i64 y) := by go_simp
        have x2 : w1.cell? ⟨w.heap.size + 1, 0, none⟩ = some (.int .i64 sq) := by go_simp
        have z0 := hc2 _ _ _ (by omega) x0
        have z1 := hc2 _ _ _ (by omega) x1
        have z2 := hc2 _ _ _ (by omega) x2
        have zz : w.heap.size + 1 < w2.heap.size := by omega
        clear hown' hgrow hc2 x0 x1 x2 hb1 hown
        (repeat clear hl1); (repeat clear hl2); (repeat clear hl3); (repeat clear hl4); (repeat clear hk1); (repeat clear hk2); (repeat clear hk3); (repeat clear hk4); (repeat clear hcn); (repeat clear hfn); (repeat clear hln); (repeat clear hz0); (repeat clear hz1); (repeat clear hz2); (repeat clear hs1); (repeat clear hb1)
        go_wp2
        go_roundw
        case rel => exact ⟨k + 1, by omega, by go_num, by rw [Hnb.out]; exact ho2, z0, z1, z2, hb2, zz⟩
        case measure => simp [intOf]; omega
      · have hnb := wn_no hc
        have Hnb := Lib.hid hnb
        clear hnb
        go_wp2_with (go_at_call 54; (refine (Hne.out _ (by go_simp) (by go_simp) (by go_simp)).mono ?_; rintro e w1 ⟨rfl, hb1⟩; have hs1 := hb1.size; (try simp at hs1); (first | have hk4 := call_facts hl3 hb1 (by simp) | skip); (first | have hk3 := call_facts hl2 hb1 (by simp) | skip); (first | have hk2 := call_facts hl1 hb1 (by simp) | skip); have hk1 := call_facts (fun b h => h) hb1 (Nat.le_refl _); (first | have hl4 := hk4.1 | skip); (first | have hl3 := hk3.1 | skip); (first | have hl2 := hk2.1 | skip); have hl1 := hk1.1))
        go_roundw
        case rel => exact ⟨k + 1, by omega, by go_num, by rw [Hnb.out]; exact own_below (hown.alloc _) hb1, by go_simp, by go_simp, by go_simp, (by repeat (first | exact Below.refl _ _ | assumption | refine Below.drew ?_ | refine below_drewN ?_ _ | refine Below.alloc ?_ (by first | omega | (simp; done) | (simp; omega)) _ | refine Below.setCell ?_ (by first | omega | (simp; done) | (simp; omega)) _ | refine Below.trans ?_ (Below.mono (by assumption) (by first | omega | (simp; done) | (simp; omega))))), (by first | omega | (simp; done) | (simp; omega))⟩
        case measure => simp [intOf]; omega
    · obtain rfl : k = l.length := by omega
      go_wp2
      go_ret2
      exact ⟨_, rfl, own_mono hown (by omega), (by repeat (first | exact Below.refl _ _ | assumption | refine Below.drew ?_ | refine below_drewN ?_ _ | refine Below.alloc ?_ (by first | omega | (simp; done) | (simp; omega)) _ | refine Below.setCell ?_ (by first | omega | (simp; done) | (simp; omega)) _ | refine Below.trans ?_ (Below.mono (by assumption) (by first | omega | (simp; done) | (simp; omega)))))⟩

theorem specWithin_any (x y sq : Int) (a : Option Addr) (cap : Nat) (l : List (Int × Int)) (hl : l.length ≤ 1048576) {w : World} (ha : SpotsAt w a l) :
    Calls Try.prog 32 #[.agg #[.int .i64 x, .int .i64 y], .slice a l.length cap, .int .i64 sq] w (WithinPost x y sq l w) := by
  cases hv : canWithin x y sq l
  · refine (specWithin_no x y sq a cap l hl ha hv).mono fun e w' ⟨he, hb⟩ => ⟨.slice none 0 0, by rw [hv]; exact he, ?_, hb⟩
    have e0 : within x y sq l = [] := by unfold within; rw [hv]; rfl
    rw [e0]
    exact World.ownsRow_nil _ _ _ _
  · have hv' := hv
    unfold canWithin at hv'
    simp only [Bool.and_eq_true] at hv'
    refine (specWithin_yes x y sq a cap l hl ha hv'.1.1 hv'.1.2 hv'.2).mono fun e w' ⟨v, he, ho, hb⟩ => ⟨v, by rw [hv]; exact he, ?_, hb⟩
    have e0 : within x y sq l = wn x y sq l l.length := by unfold within; rw [hv]; rfl
    rw [e0]
    exact ho

theorem within_any (x y sq : Int) (a : Option Addr) (cap : Nat) (l : List (Int × Int)) (hl : l.length ≤ 1048576) {w : World} (ha : SpotsAt w a l) :
    Calls Try.prog 33 #[.agg #[.int .i64 x, .int .i64 y], .slice a l.length cap, .int .i64 sq] w (WithinPost x y sq l w) := by
  cases hv : canWithin x y sq l
  · refine (within_no x y sq a cap l hl ha hv).mono fun e w' ⟨he, hb⟩ => ⟨.slice none 0 0, by rw [hv]; exact he, ?_, hb⟩
    have e0 : within x y sq l = [] := by unfold within; rw [hv]; rfl
    rw [e0]
    exact World.ownsRow_nil _ _ _ _
  · have hv' := hv
    unfold canWithin at hv'
    simp only [Bool.and_eq_true] at hv'
    refine (within_yes x y sq a cap l hl ha hv'.1.1 hv'.1.2 hv'.2).mono fun e w' ⟨v, he, ho, hb⟩ => ⟨v, by rw [hv]; exact he, ?_, hb⟩
    have e0 : within x y sq l = wn x y sq l l.length := by unfold within; rw [hv]; rfl
    rw [e0]
    exact ho

theorem within_le (x y sq : Int) (l : List (Int × Int)) : (within x y sq l).length ≤ l.length := by
  unfold within
  split
  · exact wn_length x y sq l l.length
  · simp

end Go.Proofs.Ythmgbfnjkiehcaa
