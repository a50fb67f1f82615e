/- Arrays of places, whole, and the places of a chart. No conditions but those written in each theorem. -/
import Derived.Test.YtfimjfchdaioeaaChIf
import Derived.Deep.RegionHeld3
import Derived.Deep.DrawnRows
import Derived.IntWalk
import Derived.StillTailTactics
import Derived.Deep.DeepCutAuto
import Derived.Deep.OwnRows
import Derived.Deep.MidRow
import Derived.Laws.Rows
import Derived.Lib.LazyBuf
import Derived.Lib.QuietBelow
namespace Go.Proofs.Ytfimjfchdaioeaa
open Go.RowKit


attribute [local go_sem ↓] Go.wp_at_zero Go.wp_at_succ

/-- Block g holds the array A of places. -/
def ArrAt (w : World) (g : Nat) (A : Array Value) : Prop := w.heap[g]? = some (.cells A 72 (0, 0))
/-- The cells of an array of places. -/
def IsArr (A : Array Value) : Prop := A.size = 24 ∧ ∀ v ∈ A, v.oneCell' = true
theorem ArrAt.below {w w' : World} {g : Nat} {A : Array Value} (h : ArrAt w g A) (hb : Below w.heap.size w w') : ArrAt w' g A :=
  (hb.block g (Array.getElem?_eq_some_iff.1 h).1).trans h
theorem ArrAt.other {w w' : World} {g : Nat} {A : Array Value} {r : Option Nat} (h : ArrAt w g A) (hg : w.grownBy w' r) (hne : some g ≠ r) : ArrAt w' g A :=
  (hg.block g (Array.getElem?_eq_some_iff.1 h).1 hne).trans h
theorem ArrAt.lt {w : World} {g : Nat} {A : Array Value} (h : ArrAt w g A) : g < w.heap.size := (Array.getElem?_eq_some_iff.1 h).1
theorem ArrAt.cell {w : World} {g : Nat} {A : Array Value} (h : ArrAt w g A) {c : Nat} {v : Value} (hv : A[c]? = some v) : w.cell? ⟨g, c, none⟩ = some v := by
  unfold ArrAt at h
  simp [World.cell?, h, hv]
theorem ArrAt.row {w : World} {g : Nat} {A : Array Value} (h : ArrAt w g A) {n : Nat} (hn : A.size = n) {F : Nat → Value} (hF : ∀ i, i < n → A[i]? = some (F i)) : w.rowIs g 72 n F := ⟨A, h, hn, hF⟩
theorem arr_of_row {w : World} {g : Nat} {F : Nat → Value} (h : w.rowIs g 72 24 F) {A : Array Value} (hA : A.size = 24) (hF : ∀ i, i < 24 → A[i]? = some (F i)) : ArrAt w g A := by
  obtain ⟨c, hb, hn, hc⟩ := h
  have e : c = A := by
    apply Array.ext_getElem?
    intro i
    by_cases hi : i < 24
    · rw [hc i hi, hF i hi]
    · rw [Array.getElem?_eq_none (by omega), Array.getElem?_eq_none (by omega)]
  rw [← e]
  exact hb
theorem gb_setCells (g : Nat) : ∀ (vs : List Value) (o : Nat) (w : World), w.grownBy (w.setCells g o vs) (some g)
  | [], _, w => gb_refl _ _
  | v :: r, o, w => gb_trans (gb_set w g o v) (gb_setCells g r (o + 1) _)
theorem arr_stored {w : World} {g : Nat} {A B : Array Value} (h : ArrAt w g A) (hA : A.size = 24) (hB : IsArr B) : ArrAt (w.setCells g 0 B.toList) g B := by
  have hr := h.row hA (F := fun i => A[i]?.getD default) (fun i hi => by rw [Array.getElem?_eq_getElem (by omega)]; rfl)
  refine arr_of_row (rowIs_setCells B.toList 0 w _ hr) hB.1 (fun i hi => ?_)
  have hb := hB.1
  rw [if_pos ⟨Nat.zero_le _, by simp; omega⟩, Nat.sub_zero, Array.getElem?_toList, Array.getElem?_eq_getElem (by omega)]
  rfl
theorem Try.size24 : (Try.prog.info? 72).map (·.size) = some 24 := by kernel_rfl
theorem arr_there {w : World} {g : Nat} {A : Array Value} (h : ArrAt w g A) (hA : A.size = 24) : w.there g 0 24 := fun j hj => by
  have hr := h.row hA (F := fun i => A[i]?.getD default) (fun i hi => by rw [Array.getElem?_eq_getElem (by omega)]; rfl)
  rw [Nat.zero_add]
  exact ⟨by rw [hr.cell hj]; rfl, hr.frozen j⟩
theorem arr_load {ops : Array Oper} {rest : List Oper} {o : Oper} {a : Act} {w : World} {Q : Exit → Act → World → Prop} (hgd : o.guard = none) (x : Operand) (ho : o.op = .load 72 x)
    (g : Nat) (hx : a.eval x = .pointer (some ⟨g, 0, none⟩)) (A : Array Value) (hA : ArrAt w g A) (hs : A.size = 24)
    (h : wpList Try.prog ops Q rest (a.put o.dst (.agg A)) w) : wpList Try.prog ops Q (o :: rest) a w :=
  wpList_load_row hgd 72 x ho g hx 72 A (0, 0) _ hA Try.underlying72 rfl (by rw [hs]; exact Try.size24) h
theorem arr_store {ops : Array Oper} {rest : List Oper} {o : Oper} {a : Act} {w : World} {Q : Exit → Act → World → Prop} (hgd : o.guard = none) (x y : Operand) (ho : o.op = .store 72 x y)
    (g : Nat) (hx : a.eval x = .pointer (some ⟨g, 0, none⟩)) (A B : Array Value) (hy : a.eval y = .agg B) (hA : ArrAt w g A) (hs : A.size = 24) (hB : IsArr B)
    (h : ∀ W, ArrAt W g B → w.grownBy W (some g) → wpList Try.prog ops Q rest (a.put o.dst undef) W) : wpList Try.prog ops Q (o :: rest) a w :=
  wpList_store_mid hgd 72 x y ho g 0 B hx hy (by rw [hB.1]; exact arr_there hA hs) (by rw [hB.1]; exact Try.size24) (Array.all_eq_true_iff_forall_mem.2 hB.2)
    (h _ (arr_stored hA hs hB) (gb_setCells g _ _ _))
theorem arr_results {fn : Func} {p : Tmp} (h : fn.results = #[.cell p 72]) (tmps : Array Value) (w : World) (g : Nat) (A : Array Value)
    (hp : tmps.getD p undef = .pointer (some ⟨g, 0, none⟩)) (hA : ArrAt w g A) (hs : A.size = 24) : (results fn tmps).run Try.prog w = .ok (.agg A) w :=
  results_cell_row h tmps w g 72 A (0, 0) _ hp hA Try.underlying72 rfl (by rw [hs]; exact Try.size24)
/-- A new array. -/
theorem arr_new (w : World) (A : Array Value) : ArrAt (w.alloc (.cells A 72)) w.heap.size A := heap_alloc_new w _
def zA : Array Value := #[.int .i64 0, .int .i64 0, .int .i64 0, .int .i64 0, .int .i64 0, .int .i64 0, .int .i64 0, .int .i64 0, .int .i64 0, .int .i64 0, .int .i64 0, .int .i64 0, .int .i64 0, .int .i64 0, .int .i64 0, .int .i64 0, .int .i64 0, .int .i64 0, .int .i64 0, .int .i64 0, .int .i64 0, .int .i64 0, .int .i64 0, .int .i64 0]
theorem zA_get {c : Nat} (h : c < 24) : zA[c]? = some (.int .i64 0) := by
  have : c = 0 ∨ c = 1 ∨ c = 2 ∨ c = 3 ∨ c = 4 ∨ c = 5 ∨ c = 6 ∨ c = 7 ∨ c = 8 ∨ c = 9 ∨ c = 10 ∨ c = 11 ∨ c = 12 ∨ c = 13 ∨ c = 14 ∨ c = 15 ∨ c = 16 ∨ c = 17 ∨ c = 18 ∨ c = 19 ∨ c = 20 ∨ c = 21 ∨ c = 22 ∨ c = 23 := by omega
  rcases this with rfl | rfl | rfl | rfl | rfl | rfl | rfl | rfl | rfl | rfl | rfl | rfl | rfl | rfl | rfl | rfl | rfl | rfl | rfl | rfl | rfl | rfl | rfl | rfl <;> rfl
/-- A cell's number. -/
def rowN (l : List (Int × Int)) (k c : Nat) : Int := if c < k * 2 then (if c % 2 = 0 then sx l (c / 2) else sy l (c / 2)) else 0
theorem rowF_int (l : List (Int × Int)) (k c : Nat) : rowF l k c = .int .i64 (rowN l k c) := by
  unfold rowF rowN
  split
  · split <;> rfl
  · rfl
/-- The cells of a list's places, and zeros behind them. -/
def plA (l : List (Int × Int)) : Array Value := ((List.range 24).map (rowF l l.length)).toArray
theorem plA_size (l : List (Int × Int)) : (plA l).size = 24 := by simp [plA]
theorem plA_get (l : List (Int × Int)) {c : Nat} (h : c < 24) : (plA l)[c]? = some (rowF l l.length c) := by simp [plA, h]
theorem plA_arr (l : List (Int × Int)) : IsArr (plA l) := ⟨plA_size l, fun v hv => by
  unfold plA at hv
  simp only [List.mem_toArray, List.mem_map] at hv
  obtain ⟨c, _, rfl⟩ := hv
  rw [rowF_int]
  rfl⟩
theorem plA_at {l : List (Int × Int)} {k : Nat} (hk : k < l.length) (h12 : l.length ≤ 12) : (plA l)[k * 2]? = some (.int .i64 (sx l k)) ∧ (plA l)[k * 2 + 1]? = some (.int .i64 (sy l k)) := by
  rw [plA_get l (by omega), plA_get l (by omega)]
  unfold rowF
  rw [if_pos (by omega), if_pos (by omega), if_pos (by omega), if_neg (by omega), Nat.mul_div_cancel _ (by omega), show (k * 2 + 1) / 2 = k by omega]
  exact ⟨rfl, rfl⟩

set_option maxRecDepth 100000 in
set_option maxHeartbeats 4000000 in
theorem placesOf_any (a : Option Addr) (cap : Nat) (l : List (Int × Int)) (hl : l.length ≤ 12) {w : World} (ha : PairsAt w a l) :
    Calls Try.prog 66 #[.slice a l.length cap] w fun e w' => e = .returned (.agg (plA l)) ∧ Below w.heap.size w w' := by
  have HA := Lib.hid ha
  clear ha
  go_enter Try.func66, Try.ntmps66
  go_wp2
  go_loopw [8] (fun i wr => ∃ k : Nat, k ≤ l.length ∧ i = .int .i64 (k : Int) ∧ Hid (wr.rowIs (w.heap.size + 1) 72 24 (rowF l k)) ∧ Hid (ArrAt wr w.heap.size zA) ∧ Below w.heap.size w wr) (fun i _ => l.length - (intOf i).toNat)
  case atStart =>
    have h := World.rowIs_alloc (w.alloc (.cells zA 72)) zA 72 (rowF l 0) (fun i hi => (zA_get hi).trans (by unfold rowF; simp))
    rw [World.size_alloc] at h
    exact ⟨0, Nat.zero_le _, rfl, Lib.hid h, Lib.hid ((arr_new w zA).below ((Below.refl _ _).alloc (Nat.le_refl _) _)), (by repeat (first | exact Below.refl _ _ | assumption | refine Below.drew ?_ | refine below_drewN ?_ _ | refine Below.alloc ?_ (by first | omega | (simp; done) | (simp; omega)) _ | refine Below.setCell ?_ (by first | omega | (simp; done) | (simp; omega)) _ | refine Below.trans ?_ (Below.mono (by assumption) (by first | omega | (simp; done) | (simp; omega)))))⟩
  case round =>
    obtain ⟨k, hk, rfl, HR, HZ, hbr⟩ := hrel
    have hsr := hbr.size
    by_cases hlt : k < l.length
    · obtain ⟨b, off, rfl, e0, e1⟩ := (HA.out.below hbr) k hlt
      have hst := (row_step HR.out).alloc (.cells #[.int .i64 (sx l k), .int .i64 (sy l k)] 41)
      have hz := ((HZ.out.other (gb_trans (gb_set wr (w.heap.size + 1) (k * 2) (.int .i64 (sx l k))) (gb_set _ (w.heap.size + 1) (k * 2 + 1) (.int .i64 (sy l k)))) (by simp)).below ((Below.refl _ _).alloc (Nat.le_refl _) (.cells #[.int .i64 (sx l k), .int .i64 (sy l k)] 41)))
      have d0 := HR.out.cell (i := k * 2) (by omega)
      have d1 := HR.out.cell (i := k * 2 + 1) (by omega)
      have f0 := HR.out.frozen (k * 2)
      have f1 := HR.out.frozen (k * 2 + 1)
      have hlw := HR.out.lt
      obtain ⟨u0, hu0⟩ : ∃ u, u = rowF l k (k * 2) := ⟨_, rfl⟩
      obtain ⟨u1, hu1⟩ : ∃ u, u = rowF l k (k * 2 + 1) := ⟨_, rfl⟩
      rw [← hu0] at d0
      rw [← hu1] at d1
      obtain ⟨X, hX⟩ : ∃ X, X = sx l k := ⟨_, rfl⟩
      obtain ⟨Y, hY⟩ : ∃ Y, Y = sy l k := ⟨_, rfl⟩
      rw [← hX] at e0 hst hz
      rw [← hY] at e1 hst hz
      have HST := Lib.hid hst
      have HZT := Lib.hid hz
      have i0 : (0 : Int) ≤ (k : Int) := by omega
      have i1 : (k : Int) < 12 := by omega
      have i2 : k < 12 := by omega
      have n1 : ¬ w.heap.size + 1 = wr.heap.size := by omega
      have n2 : ¬ wr.heap.size = w.heap.size + 1 := by omega
      clear hst hz hu0 hu1 hX hY
      go_wp2
      go_roundw
      case rel => exact ⟨k + 1, by omega, by go_num, HST, HZT, (by repeat (first | exact Below.refl _ _ | assumption | refine Below.drew ?_ | refine below_drewN ?_ _ | refine Below.alloc ?_ (by first | omega | (simp; done) | (simp; omega)) _ | refine Below.setCell ?_ (by first | omega | (simp; done) | (simp; omega)) _ | refine Below.trans ?_ (Below.mono (by assumption) (by first | omega | (simp; done) | (simp; omega)))))⟩
      case measure => simp [intOf]; omega
    · obtain rfl : k = l.length := by omega
      have hA := arr_of_row HR.out (plA_size l) (fun i hi => plA_get l hi)
      have HB := Lib.hid hbr
      go_upto_region 7 with fail
      refine wp_region_lit ?_
      refine arr_load rfl (.tmp 3) rfl (w.heap.size + 1) rfl (plA l) hA (plA_size l) ?_
      refine arr_store rfl (.tmp 2) (.tmp 21) rfl w.heap.size rfl zA (plA l) rfl HZ.out rfl (plA_arr l) ?_
      intro W5 hA5 hg5
      refine wpList_nil ?_
      go_wp2
      exact bodyPost_ret (arr_results rfl _ _ w.heap.size (plA l) rfl hA5 (plA_size l)) rfl ⟨rfl, gb_below HB.out hg5 (Nat.le_refl _)⟩

end Go.Proofs.Ytfimjfchdaioeaa
