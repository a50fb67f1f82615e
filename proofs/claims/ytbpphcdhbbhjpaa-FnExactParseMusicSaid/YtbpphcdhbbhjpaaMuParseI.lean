/- The program's reading of music. Conditions: the text's length. -/
import Derived.Test.YtbpphcdhbbhjpaaMuImpl
import Derived.Test.YtbpphcdhbbhjpaaOwn
import Derived.Test.YtbpphcdhbbhjpaaToMeasure
import Derived.Test.YtbpphcdhbbhjpaaMuParse
import Derived.Test.YtbpphcdhbbhjpaaParseNum
import Derived.Deep.RegionHeld3
import Derived.Deep.DrawnRows
import Derived.IntWalk
import Derived.Laws.AppendOwn
import Derived.Deep.AppendLies
import Derived.WalkSmall
import Derived.Lib.OthersKept
namespace Go.Proofs.Ytbpphcdhbbhjpaa
open Go.RowKit


attribute [local go_sem ↓] Go.wp_at_zero Go.wp_at_succ

/-- The signs of the number that is being read. -/
def curT (T : List UInt8) (bg pos : Nat) : List UInt8 := (T.drop bg).take (pos - bg)
theorem curT_nil (T : List UInt8) (p : Nat) : curT T p p = [] := by simp [curT]
theorem curT_more (T : List UInt8) {bg pos n : Nat} (h : bg ≤ pos) : curT T bg (pos + n) = curT T bg pos ++ (T.drop pos).take n := by
  unfold curT
  rw [show pos + n - bg = (pos - bg) + n by omega, List.take_add, List.drop_drop, show bg + (pos - bg) = pos by omega]
theorem curT_len (T : List UInt8) (bg pos : Nat) : (curT T bg pos).length ≤ pos - bg := by unfold curT; simp; omega
theorem curT_end (T : List UInt8) {bg : Nat} (h : bg ≤ T.length) : curT T bg T.length = [] ↔ bg = T.length := by
  unfold curT
  rw [List.take_of_length_le (by simp), ]
  constructor
  · intro e
    have := congrArg List.length e
    simp at this
    omega
  · intro e; rw [e]; simp
theorem rd_other {T : List UInt8} {pos bg : Nat} {k : Bool} {c : Int} {acc : List (Int × Int)} (hp : pos < T.length) (hb : bg ≤ pos) (hne : T[pos]'hp ≠ endS k) :
    (Utf8.decode (bs T) pos).1 ≠ (endS k).toNat ∧ 1 ≤ (Utf8.decode (bs T) pos).2 ∧ pos + (Utf8.decode (bs T) pos).2 ≤ T.length ∧
      rdM k c (curT T bg pos) acc (T.drop pos) = rdM k c (curT T bg (pos + (Utf8.decode (bs T) pos).2)) acc (T.drop (pos + (Utf8.decode (bs T) pos).2)) := by
  have hp' : pos < (bs T).size := hp
  have hf := dec_fits hp
  by_cases ha : (T[pos]'hp).toNat < 128
  · have hd := decode_ascii (bs T) pos hp' (by rw [bs_get hp' hp]; exact ha)
    rw [bs_get hp' hp] at hd
    rw [hd]
    refine ⟨fun e => hne (UInt8.toNat_inj.1 e), Nat.le_refl _, by omega, ?_⟩
    rw [curT_more T hb, List.drop_eq_getElem_cons hp, rdM_other k c acc hne]
    rfl
  · have hh := decode_high (bs T) pos hp' (by rw [bs_get hp' hp]; omega)
    have hby := dec_bytes hp (by omega)
    have hE : (endS k).toNat < 128 := by cases k <;> decide
    refine ⟨by omega, hh.2, hf, ?_⟩
    rw [curT_more T hb]
    have e : T.drop pos = (T.drop pos).take (Utf8.decode (bs T) pos).2 ++ T.drop (pos + (Utf8.decode (bs T) pos).2) := by
      rw [← List.drop_drop, List.take_append_drop]
    conv => lhs; rw [e]
    rw [rdM_skip k c acc _ (fun b hb2 e2 => by have := hby b hb2; rw [e2] at this; omega)]
theorem rd_hit {T : List UInt8} {pos : Nat} {k : Bool} (hp : pos < T.length) (he : T[pos]'hp = endS k) :
    Utf8.decode (bs T) pos = ((endS k).toNat, 1) ∧ T.drop pos = endS k :: T.drop (pos + 1) := by
  have hp' : pos < (bs T).size := hp
  have hd := decode_ascii (bs T) pos hp' (by rw [bs_get hp' hp, he]; cases k <;> decide)
  rw [bs_get hp' hp, he] at hd
  exact ⟨hd, by rw [List.drop_eq_getElem_cons hp, he]⟩
/-- A box of two numbers, and the range's place behind it. -/
structure BoxIt (w : World) (b : Nat) (c t : Int) (T : List UInt8) (pos : Nat) : Prop where
  c0 : w.cell? ⟨b, 0, none⟩ = some (.int .i64 c)
  c1 : w.cell? ⟨b, 1, none⟩ = some (.int .i64 t)
  f0 : w.frozen? ⟨b, 0, none⟩ = false
  f1 : w.frozen? ⟨b, 1, none⟩ = false
  it : w.heap[b + 1]? = some (.stringIter (bs T) pos)
theorem BoxIt.lt {w : World} {b : Nat} {c t : Int} {T : List UInt8} {pos : Nat} (h : BoxIt w b c t T pos) : b + 1 < w.heap.size := (Array.getElem?_eq_some_iff.1 h.it).1
theorem BoxIt.go {w w1 : World} {b : Nat} {c t : Int} {T : List UInt8} {pos : Nat} (h : BoxIt w b c t T pos) (hb : Below w.heap.size w w1) : BoxIt w1 b c t T pos :=
  have hl := h.lt
  ⟨(hb.cell (p := ⟨b, 0, none⟩) (by show b < _; omega)).trans h.c0, (hb.cell (p := ⟨b, 1, none⟩) (by show b < _; omega)).trans h.c1, (hb.frozen (p := ⟨b, 0, none⟩) (by show b < _; omega)).trans h.f0, (hb.frozen (p := ⟨b, 1, none⟩) (by show b < _; omega)).trans h.f1, (hb.block _ hl).trans h.it⟩
theorem BoxIt.set0 {w : World} {b : Nat} {c t n : Int} {T : List UInt8} {pos : Nat} (h : BoxIt w b c t T pos) : BoxIt (w.setCell ⟨b, 0, none⟩ (.int .i64 n)) b n t T pos :=
  ⟨World.cell?_setCell_same w _ _ h.c0, (World.cell?_setCell_other _ _ _ _ (by simp)).trans h.c1, (by rw [World.frozen?_setCell]; exact h.f0), (by rw [World.frozen?_setCell]; exact h.f1), (Below.heap_setCell w _ _ _ (by simp)).trans h.it⟩
theorem BoxIt.set1 {w : World} {b : Nat} {c t n : Int} {T : List UInt8} {pos : Nat} (h : BoxIt w b c t T pos) : BoxIt (w.setCell ⟨b, 1, none⟩ (.int .i64 n)) b c n T pos :=
  ⟨(World.cell?_setCell_other _ _ _ _ (by simp)).trans h.c0, World.cell?_setCell_same w _ _ h.c1, (by rw [World.frozen?_setCell]; exact h.f0), (by rw [World.frozen?_setCell]; exact h.f1), (Below.heap_setCell w _ _ _ (by simp)).trans h.it⟩
theorem cell_iter {w : World} {k b o : Nat} (h : b < k) (s : ByteArray) (p : Nat) : (w.iterAt k s p).cell? ⟨b, o, none⟩ = w.cell? ⟨b, o, none⟩ ∧ (w.iterAt k s p).frozen? ⟨b, o, none⟩ = w.frozen? ⟨b, o, none⟩ :=
  ⟨(Lib.below_iterAt (Below.refl k w) (Nat.le_refl _) s p).cell (p := ⟨b, o, none⟩) h, (Lib.below_iterAt (Below.refl k w) (Nat.le_refl _) s p).frozen (p := ⟨b, o, none⟩) h⟩

set_option maxHeartbeats 4000000 in
theorem parseMusic_any (s : List UInt8) (hs : s.length ≤ 1048576) (w : World) :
    Calls Try.prog 40 #[.string (bs s)] w fun e w' => ∃ v, e = .returned (.tuple #[v, .bool (parB s)]) ∧ OwnPairs 46 w' w.heap.size v (parL s) ∧ Below w.heap.size w w' := by
  obtain ⟨j0, hi, hz0, hz1, hz2⟩ := info_parts Try.infoMeasure
  have HI := Lib.hid hi
  have HZ0 := Lib.hid hz0
  have HZ1 := Lib.hid hz1
  have HZ2 := Lib.hid hz2
  clear hi hz0 hz1 hz2
  obtain ⟨T, hT⟩ : ∃ T, s ++ [32] = T := ⟨_, rfl⟩
  have hr0 := cat_oneE (P := Try.prog) hT (by omega)
  have hTl : T.length ≤ 1048577 := by rw [← hT]; simp; omega
  have hTz := bs_size T
  have HP := Lib.hid (show (∀ l, rdM false 0 [] [] T = some l → parB s = musOk l ∧ parL s = if musOk l then l else []) ∧ (rdM false 0 [] [] T = none → parB s = false ∧ parL s = []) from ⟨fun l h => par_some (by rw [hT]; exact h), fun h => par_none (by rw [hT]; exact h)⟩)
  clear hT
  go_enter Try.func40, Try.ntmps40
  go_wp2
  go_loopw [4, 7, 8] (fun lv kd bg0 wr => ∃ (pos bg : Nat) (k : Bool) (c t : Int) (v : Value) (acc : List (Int × Int)), pos ≤ T.length ∧ bg ≤ pos ∧ kd = .int .i64 (if k then 1 else 0) ∧ bg0 = .int .i64 bg ∧ lv = v ∧ OwnPairs 46 wr (w.heap.size + 2) v acc ∧ 2 * acc.length + k.toNat ≤ bg ∧ wr.cell? ⟨w.heap.size, 0, none⟩ = some (.int .i64 c) ∧ wr.cell? ⟨w.heap.size, 1, none⟩ = some (.int .i64 t) ∧ wr.frozen? ⟨w.heap.size, 0, none⟩ = false ∧ wr.frozen? ⟨w.heap.size, 1, none⟩ = false ∧ wr.heap[w.heap.size + 1]? = some (.stringIter (bs T) pos) ∧ Hid (rdM k c (curT T bg pos) acc (T.drop pos) = rdM false 0 [] [] T) ∧ Below w.heap.size w wr) (fun _ _ _ wr => T.length - wr.iterPos (w.heap.size + 1))
  case atStart =>
    have hb0 : Below w.heap.size w ((w.alloc (.cells #[.int .i64 0, .int .i64 0] 46)).iter (bs T) 0) := ((Below.refl _ _).alloc (Nat.le_refl _) _).alloc (by simp) _
    refine ⟨0, 0, false, 0, 0, _, [], Nat.zero_le _, Nat.le_refl _, rfl, rfl, rfl, own_nil _ _ _, by simp, ?_, ?_, ?_, ?_, ?_, Lib.hid (by rw [curT_nil, List.drop_zero]), hb0⟩
    · exact (World.cell?_alloc_past _ _ _ (by simp)).trans (by rw [World.cell?_alloc_at _ _ _ _ rfl]; rfl)
    · exact (World.cell?_alloc_past _ _ _ (by simp)).trans (by rw [World.cell?_alloc_at _ _ _ _ rfl]; rfl)
    · exact (World.frozen?_alloc_past _ _ _ (by simp)).trans (by rw [World.frozen?_alloc_at _ _ _ _ rfl])
    · exact (World.frozen?_alloc_past _ _ _ (by simp)).trans (by rw [World.frozen?_alloc_at _ _ _ _ rfl])
    · have h := World.iter_heap (w.alloc (.cells #[.int .i64 0, .int .i64 0] 46)) (bs T) 0
      simpa using h
  case round =>
    obtain ⟨pos, bg, k, c, t, vl, acc, hps, hbg, rfl, rfl, hv, hown, hal, m0, m1, fr0, fr1, hit, hrd, hbw⟩ := hrel
    replace hv := hv.symm
    subst hv
    have hsr := hbw.size
    have hpos0 := iterPos_of hit
    have hBlt := (Array.getElem?_eq_some_iff.1 hit).1
    by_cases hp : pos < T.length
    · have hp' : pos < (bs T).size := hp
      have hnx : ∀ ty, (Instr.next (.pointer (some ⟨w.heap.size + 1, 0, none⟩)) true ty).run Try.prog wr = _ := fun ty => Lib.run_next_any_at wr (w.heap.size + 1) (bs T) pos ty hit hp'
      have ci := fun p (o : Nat) => cell_iter (w := wr) (k := w.heap.size + 1) (b := w.heap.size) (o := o) (by omega) (bs T) p
      by_cases he : T[pos]'hp = endS k
      · obtain ⟨hd, hdr⟩ := rd_hit hp he
        simp only [hd] at hnx
        have hbw2 := Lib.below_iterAt hbw (k := w.heap.size + 1) (by omega) (bs T) (pos + 1)
        have hit2 := Lib.iterAt_heap wr (w.heap.size + 1) (bs T) pos (pos + 1) hit
        have n0 := ((ci (pos + 1) 0).1).trans m0
        have n1 := ((ci (pos + 1) 1).1).trans m1
        have g0 := ((ci (pos + 1) 0).2).trans fr0
        have g1 := ((ci (pos + 1) 1).2).trans fr1
        have hown2 := ownsRow_iterAt hown (k := w.heap.size + 1) (by omega) (bs T) (pos + 1)
        obtain ⟨W1, hW1⟩ : ∃ W1, W1 = wr.iterAt (w.heap.size + 1) (bs T) (pos + 1) := ⟨_, rfl⟩
        rw [← hW1] at hnx hbw2 hit2 n0 n1 g0 g1 hown2
        have hsz : W1.heap.size = wr.heap.size := by rw [hW1]; exact Lib.iterAt_size _ _ _ _
        have hsz2 : w.heap.size + 1 < W1.heap.size := by omega
        have cp : W1.heap.size = wr.heap.size := hsz
        clear hW1 ci hd he hit hbw hown m0 m1 fr0 fr1 hsz cp hBlt hsr
        obtain ⟨cur, hcur⟩ : ∃ cur, cur = curT T bg pos := ⟨_, rfl⟩
        have hcl : cur.length ≤ 1048576 := by have := curT_len T bg pos; rw [hcur]; omega
        have hex : (bs T).extract bg pos = bs cur := by rw [bs_extract, hcur]; rfl
        have hOwnLt := World.ownsRow.lt hown2
        have hne : vl.ownBlock = none ∨ vl.ownBlock ≠ some w.heap.size := by
          cases hvb : vl.ownBlock with
          | none => exact .inl rfl
          | some q => exact .inr (fun e => by have := hOwnLt q hvb; have := Option.some.inj e; omega)
        have HNE := Lib.hid (show ∀ b, b < w.heap.size + 2 → some b ≠ vl.ownBlock from fun b hb e => by have := hOwnLt b e.symm; omega)
        have HON := Lib.hid hown2
        have HBX := Lib.hid (show BoxIt W1 w.heap.size c t T (pos + 1) from ⟨n0, n1, g0, g1, hit2⟩)
        have hdr0 := hrd.out
        rw [hdr, ← hcur] at hdr0
        have ae1 : acc.length ≤ 1048576 := by omega
        cases k
        · have hrd2 : (if okN cur 12 = true then rdM true (numL cur : Nat) [] acc (T.drop (pos + 1)) else none) = rdM false 0 [] [] T := by
            rw [← hdr0]; show _ = rdM false c cur acc (64 :: _); rw [rdM, if_pos rfl]
          have NP : ∀ W : World, Calls Try.prog 66 #[.string (bs cur), .int .i64 12] W fun e w' => e = .returned (.tuple #[.int .i64 (valN cur 12), .bool (okN cur 12)]) ∧ Below W.heap.size W w' := fun W => parseNumber_any cur 12 (by omega) hcl W
          simp only [show (endS false).toNat = 64 from rfl] at hnx
          clear hcur hcl hdr hdr0 hrd hit2 n0 n1 g0 g1 hown2 hOwnLt
          by_cases hok : okN cur 12 = true
          · simp only [valN_yes hok, hok] at NP
            rw [if_pos hok] at hrd2
            obtain ⟨n, hn⟩ : ∃ n : Int, n = (numL cur : Nat) := ⟨_, rfl⟩
            rw [← hn] at hrd2
            simp only [← hn] at NP
            have HRD := Lib.hid hrd2
            have HNP := Lib.hid NP
            clear hrd2 NP hn hok
            go_wp2_with (go_at_call 66; (refine (HNP.out _).mono ?_; rintro e w1 ⟨rfl, hb1⟩; have hs1 := hb1.size; have hB1 := HBX.out.go hb1; have p0 := hB1.c0; have p1 := hB1.c1; have h0 := hB1.f0; have h1 := hB1.f1; have HB1 := Lib.hid hB1; clear hB1; have HO1 := Lib.hid (own_below HON.out hb1)))
            go_roundw
            case rel =>
              have hB2 := HB1.out.set0 (n := n)
              exact ⟨pos + 1, pos + 1, true, n, t, vl, acc, by omega, Nat.le_refl _, rfl, by go_num, rfl, World.ownsRow.kept HO1.out (gb_set _ _ _ _) hne, (by simp at hal ⊢; omega), hB2.c0, hB2.c1, hB2.f0, hB2.f1, hB2.it, Lib.hid (by rw [curT_nil]; exact HRD.out), (by repeat (first | exact Below.refl _ _ | assumption | refine Below.drew ?_ | refine below_drewN ?_ _ | refine Below.alloc ?_ (by first | omega | (simp; done) | (simp; omega)) _ | refine Below.setCell ?_ (by first | omega | (simp; done) | (simp; omega)) _ | refine Below.trans ?_ (Below.mono (by assumption) (by first | omega | (simp; done) | (simp; omega)))))⟩
            case measure => have hB2 := HB1.out.set0 (n := n); rw [iterPos_of hB2.it, hpos0]; omega
          · have hok2 : okN cur 12 = false := by simpa using hok
            simp only [valN_no hok2, hok2] at NP
            rw [if_neg hok] at hrd2
            obtain ⟨e1, e2⟩ := HP.out.2 hrd2.symm
            have E1 := Lib.hid e1
            have E2 := Lib.hid e2
            have HNP := Lib.hid NP
            clear hrd2 NP hok hok2 e1 e2
            go_wp2_with (go_at_call 66; (refine (HNP.out _).mono ?_; rintro e w1 ⟨rfl, hb1⟩; have hs1 := hb1.size; have hB1 := HBX.out.go hb1; have p0 := hB1.c0; have p1 := hB1.c1; have h0 := hB1.f0; have h1 := hB1.f1; have HB1 := Lib.hid hB1; clear hB1; have HO1 := Lib.hid (own_below HON.out hb1)))
            go_ret2
            exact ⟨_, by rw [E1.out]; rfl, by rw [E2.out]; exact own_nil _ _ _, (by repeat (first | exact Below.refl _ _ | assumption | refine Below.drew ?_ | refine below_drewN ?_ _ | refine Below.alloc ?_ (by first | omega | (simp; done) | (simp; omega)) _ | refine Below.setCell ?_ (by first | omega | (simp; done) | (simp; omega)) _ | refine Below.trans ?_ (Below.mono (by assumption) (by first | omega | (simp; done) | (simp; omega)))))⟩
        · have hrd2 : (if okN cur 220 = true then rdM false c [] (acc ++ [(c, ((numL cur : Nat) : Int))]) (T.drop (pos + 1)) else none) = rdM false 0 [] [] T := by
            rw [← hdr0]; show _ = rdM true c cur acc (32 :: _); rw [rdM, if_pos rfl]
          have NP : ∀ W : World, Calls Try.prog 66 #[.string (bs cur), .int .i64 220] W fun e w' => e = .returned (.tuple #[.int .i64 (valN cur 220), .bool (okN cur 220)]) ∧ Below W.heap.size W w' := fun W => parseNumber_any cur 220 (by omega) hcl W
          simp only [show (endS true).toNat = 32 from rfl] at hnx
          clear hcur hcl hdr hdr0 hrd hit2 n0 n1 g0 g1 hown2 hOwnLt
          by_cases hok : okN cur 220 = true
          · simp only [valN_yes hok, hok] at NP
            rw [if_pos hok] at hrd2
            obtain ⟨n, hn⟩ : ∃ n : Int, n = (numL cur : Nat) := ⟨_, rfl⟩
            rw [← hn] at hrd2
            simp only [← hn] at NP
            have HRD := Lib.hid hrd2
            have HNP := Lib.hid NP
            clear hrd2 NP hn hok
            go_wp2_with (first | (go_at_call 66; (refine (HNP.out _).mono ?_; rintro e w1 ⟨rfl, hb1⟩; have hs1 := hb1.size; have hB1 := HBX.out.go hb1; have p0 := hB1.c0; have p1 := hB1.c1; have h0 := hB1.f0; have h1 := hB1.f1; have HB1 := Lib.hid hB1; clear hB1; have HO1 := Lib.hid (own_below HON.out hb1))) | (at_builtin; have ho5 := ((World.ownsRow.kept HO1.out (gb_set w1 w.heap.size 1 (.int .i64 n)) hne).alloc (.cells #[.int .i64 c, .int .i64 n] 46)); refine wpList_append_own _ rfl _ _ 25 rfl (w.heap.size + 2) 46 j0 (.agg #[.int .i64 0, .int .i64 0]) 2 16 Try.underlying25 HI.out HZ0.out HZ1.out HZ2.out rfl (by decide) _ _ _ rfl ho5 ⟨w1.heap.size, 0, none⟩ 1 1 [.int .i64 c, .int .i64 n] rfl rfl ?c0 ?c1 ?c2 ?c3 ?c4 ?_))
            case c0 =>
              intro q u hq
              match q, hq with
              | 0, hq => simp at hq; subst hq; simp [Addr.add]; rw [World.cell?_alloc_at _ _ _ _ (by simp)]; rfl
              | 1, hq => simp at hq; subst hq; simp [Addr.add]; rw [World.cell?_alloc_at _ _ _ _ (by simp)]; rfl
            case c1 => intro u hu; simp at hu; rcases hu with rfl | rfl <;> rfl
            case c2 => unfold maxLen; omega
            case c3 => omega
            case c4 => simp; omega
            intro v5 w5 hown5 hgrow5 hnil5
            have hB2 := (HB1.out.set1 (n := n)).go ((Below.refl _ _).alloc (Nat.le_refl _) (.cells #[.int .i64 c, .int .i64 n] 46))
            have hbw4 : Below w.heap.size w ((w1.setCell ⟨w.heap.size, 1, none⟩ (.int .i64 n)).alloc (.cells #[.int .i64 c, .int .i64 n] 46)) := (by repeat (first | exact Below.refl _ _ | assumption | refine Below.drew ?_ | refine below_drewN ?_ _ | refine Below.alloc ?_ (by first | omega | (simp; done) | (simp; omega)) _ | refine Below.setCell ?_ (by first | omega | (simp; done) | (simp; omega)) _ | refine Below.trans ?_ (Below.mono (by assumption) (by first | omega | (simp; done) | (simp; omega)))))
            have hl5 := World.ownsRow.lt HO1.out
            have hbw5 : Below w.heap.size w w5 := hbw4.grown hgrow5 (by simp; omega) (fun q hq => by have := hl5 q hq; omega)
            have hs5 := hbw5.size
            have hB5 : BoxIt w5 w.heap.size c n T (pos + 1) := ⟨hgrow5.cell hB2.c0 (HNE.out w.heap.size (by omega)), hgrow5.cell hB2.c1 (HNE.out w.heap.size (by omega)), (hgrow5.frozen_far ⟨w.heap.size, 0, none⟩ (by have := hB2.lt; show w.heap.size < _; omega) (HNE.out w.heap.size (by omega))).trans hB2.f0, (hgrow5.frozen_far ⟨w.heap.size, 1, none⟩ (by have := hB2.lt; show w.heap.size < _; omega) (HNE.out w.heap.size (by omega))).trans hB2.f1, (hgrow5.block _ hB2.lt (HNE.out (w.heap.size + 1) (by omega))).trans hB2.it⟩
            have hown6 : OwnPairs 46 w5 (w.heap.size + 2) v5 (acc ++ [(c, n)]) := by rw [OwnPairs, pairV_append]; simpa [pairV] using hown5
            have HB5 := Lib.hid hB5
            have HO5 := Lib.hid hown6
            clear hB2 hB5 hown5 hown6 hgrow5 hnil5 hbw4 hl5
            go_wp2
            go_roundw
            case rel => exact ⟨pos + 1, pos + 1, false, c, n, _, acc ++ [(c, n)], by omega, Nat.le_refl _, rfl, by go_num, rfl, HO5.out, (by simp at hal ⊢; omega), HB5.out.c0, HB5.out.c1, HB5.out.f0, HB5.out.f1, HB5.out.it, Lib.hid (by rw [curT_nil]; exact HRD.out), (by repeat (first | exact Below.refl _ _ | assumption | refine Below.drew ?_ | refine below_drewN ?_ _ | refine Below.alloc ?_ (by first | omega | (simp; done) | (simp; omega)) _ | refine Below.setCell ?_ (by first | omega | (simp; done) | (simp; omega)) _ | refine Below.trans ?_ (Below.mono (by assumption) (by first | omega | (simp; done) | (simp; omega)))))⟩
            case measure => rw [iterPos_of HB5.out.it, hpos0]; omega
          · have hok2 : okN cur 220 = false := by simpa using hok
            simp only [valN_no hok2, hok2] at NP
            rw [if_neg hok] at hrd2
            obtain ⟨e1, e2⟩ := HP.out.2 hrd2.symm
            have E1 := Lib.hid e1
            have E2 := Lib.hid e2
            have HNP := Lib.hid NP
            clear hrd2 NP hok hok2 e1 e2
            go_wp2_with (first | (go_at_call 66; (refine (HNP.out _).mono ?_; rintro e w1 ⟨rfl, hb1⟩; have hs1 := hb1.size; have hB1 := HBX.out.go hb1; have p0 := hB1.c0; have p1 := hB1.c1; have h0 := hB1.f0; have h1 := hB1.f1; have HB1 := Lib.hid hB1; clear hB1; have HO1 := Lib.hid (own_below HON.out hb1))) | (at_builtin; have ho5 := ((World.ownsRow.kept HO1.out (gb_set w1 w.heap.size 1 (.int .i64 0)) hne).alloc (.cells #[.int .i64 c, .int .i64 0] 46)); refine wpList_append_own _ rfl _ _ 25 rfl (w.heap.size + 2) 46 j0 (.agg #[.int .i64 0, .int .i64 0]) 2 16 Try.underlying25 HI.out HZ0.out HZ1.out HZ2.out rfl (by decide) _ _ _ rfl ho5 ⟨w1.heap.size, 0, none⟩ 1 1 [.int .i64 c, .int .i64 0] rfl rfl ?c0 ?c1 ?c2 ?c3 ?c4 ?_))
            case c0 =>
              intro q u hq
              match q, hq with
              | 0, hq => simp at hq; subst hq; simp [Addr.add]; rw [World.cell?_alloc_at _ _ _ _ (by simp)]; rfl
              | 1, hq => simp at hq; subst hq; simp [Addr.add]; rw [World.cell?_alloc_at _ _ _ _ (by simp)]; rfl
            case c1 => intro u hu; simp at hu; rcases hu with rfl | rfl <;> rfl
            case c2 => unfold maxLen; omega
            case c3 => omega
            case c4 => simp; omega
            intro v5 w5 hown5 hgrow5 hnil5
            have hB2 := (HB1.out.set1 (n := 0)).go ((Below.refl _ _).alloc (Nat.le_refl _) (.cells #[.int .i64 c, .int .i64 0] 46))
            have hbw4 : Below w.heap.size w ((w1.setCell ⟨w.heap.size, 1, none⟩ (.int .i64 0)).alloc (.cells #[.int .i64 c, .int .i64 0] 46)) := (by repeat (first | exact Below.refl _ _ | assumption | refine Below.drew ?_ | refine below_drewN ?_ _ | refine Below.alloc ?_ (by first | omega | (simp; done) | (simp; omega)) _ | refine Below.setCell ?_ (by first | omega | (simp; done) | (simp; omega)) _ | refine Below.trans ?_ (Below.mono (by assumption) (by first | omega | (simp; done) | (simp; omega)))))
            have hl5 := World.ownsRow.lt HO1.out
            have hbw5 : Below w.heap.size w w5 := hbw4.grown hgrow5 (by simp; omega) (fun q hq => by have := hl5 q hq; omega)
            have hs5 := hbw5.size
            clear hB2 hown5 hgrow5 hnil5 hbw4 hl5
            go_wp2
            go_ret2
            exact ⟨_, by rw [E1.out]; rfl, by rw [E2.out]; exact own_nil _ _ _, (by repeat (first | exact Below.refl _ _ | assumption | refine Below.drew ?_ | refine below_drewN ?_ _ | refine Below.alloc ?_ (by first | omega | (simp; done) | (simp; omega)) _ | refine Below.setCell ?_ (by first | omega | (simp; done) | (simp; omega)) _ | refine Below.trans ?_ (Below.mono (by assumption) (by first | omega | (simp; done) | (simp; omega)))))⟩
      · obtain ⟨q1, q2, q3, q4⟩ := rd_other (c := c) (acc := acc) hp hbg he
        obtain ⟨d, hd⟩ : ∃ d, d = Utf8.decode (bs T) pos := ⟨_, rfl⟩
        rw [← hd] at hnx q1 q2 q3 q4
        obtain ⟨rn, wd⟩ := d
        clear hd
        simp only at hnx q1 q2 q3 q4
        have hbw2 := Lib.below_iterAt hbw (k := w.heap.size + 1) (by omega) (bs T) (pos + wd)
        have hit2 := Lib.iterAt_heap wr (w.heap.size + 1) (bs T) pos (pos + wd) hit
        have n0 := ((ci (pos + wd) 0).1).trans m0
        have n1 := ((ci (pos + wd) 1).1).trans m1
        have g0 := ((ci (pos + wd) 0).2).trans fr0
        have g1 := ((ci (pos + wd) 1).2).trans fr1
        have hown2 := ownsRow_iterAt hown (k := w.heap.size + 1) (by omega) (bs T) (pos + wd)
        have Hrd := Lib.hid (q4.symm.trans hrd.out)
        have Rest := Lib.hid (And.intro hown2 (And.intro n0 (And.intro n1 (And.intro g0 (And.intro g1 (And.intro hit2 hbw2))))))
        clear ci he hit hbw hown m0 m1 fr0 fr1 q4 hown2 n0 n1 g0 g1 hbw2 hrd
        cases k
        · have hz : ((rn : Int) == 64) = false := by rw [beq_eq_false_iff_ne]; intro e; apply q1; show rn = 64; omega
          have hz2 : ¬ rn = 64 := q1
          clear q1
          go_wp2
          go_roundw
          case rel => exact ⟨pos + wd, bg, false, c, t, _, acc, q3, by omega, rfl, rfl, rfl, Rest.out.1, hal, Rest.out.2.1, Rest.out.2.2.1, Rest.out.2.2.2.1, Rest.out.2.2.2.2.1, Rest.out.2.2.2.2.2.1, Hrd, Rest.out.2.2.2.2.2.2⟩
          case measure => rw [iterPos_of hit2, hpos0]; omega
        · have hz : ((rn : Int) == 32) = false := by rw [beq_eq_false_iff_ne]; intro e; apply q1; show rn = 32; omega
          have hz2 : ¬ rn = 32 := q1
          clear q1
          go_wp2
          go_roundw
          case rel => exact ⟨pos + wd, bg, true, c, t, _, acc, q3, by omega, rfl, rfl, rfl, Rest.out.1, hal, Rest.out.2.1, Rest.out.2.2.1, Rest.out.2.2.2.1, Rest.out.2.2.2.2.1, Rest.out.2.2.2.2.2.1, Hrd, Rest.out.2.2.2.2.2.2⟩
          case measure => rw [iterPos_of hit2, hpos0]; omega
    · have hp' : ¬ pos < (bs T).size := hp
      have hnx : ∀ ty, (Instr.next (.pointer (some ⟨w.heap.size + 1, 0, none⟩)) true ty).run Try.prog wr = _ := fun ty => Lib.run_next_end_at wr (w.heap.size + 1) (bs T) pos ty hit hp'
      obtain rfl : pos = T.length := by omega
      have hend := hrd.out
      rw [List.drop_length, rdM] at hend
      by_cases hlt : bg < T.length
      · rw [if_neg (fun e => by rw [curT_end T hbg] at e; omega)] at hend
        obtain ⟨e1, e2⟩ := HP.out.2 hend.symm
        have E1 := Lib.hid e1
        have E2 := Lib.hid e2
        clear hend e1 e2 hrd
        cases k
        all_goals
          go_wp2
          go_ret2
          exact ⟨_, by rw [E1.out]; rfl, by rw [E2.out]; exact own_nil _ _ _, (by repeat (first | exact Below.refl _ _ | assumption | refine Below.drew ?_ | refine below_drewN ?_ _ | refine Below.alloc ?_ (by first | omega | (simp; done) | (simp; omega)) _ | refine Below.setCell ?_ (by first | omega | (simp; done) | (simp; omega)) _ | refine Below.trans ?_ (Below.mono (by assumption) (by first | omega | (simp; done) | (simp; omega)))))⟩
      · obtain rfl : bg = T.length := by omega
        rw [if_pos ((curT_end T hbg).2 rfl)] at hend
        obtain ⟨e1, e2⟩ := HP.out.1 acc hend.symm
        obtain ⟨a0, cap0, rfl, I0, hA0⟩ := own_viewP hown
        have HIS := Lib.hid (fun (W : World) (hb : Below wr.heap.size wr W) => isMusic_any a0 cap0 acc (by omega) (I0.below hb))
        have HOWN := Lib.hid hown
        clear hend hrd hA0 hown I0
        cases k <;> cases hm : musOk acc
        all_goals
          rw [hm] at e1 e2
          have E1 := Lib.hid e1
          have E2 := Lib.hid e2
          clear e1 e2
          go_wp2_with (go_at_call 17; (refine (HIS.out _ (by repeat (first | exact Below.refl _ _ | assumption | refine Below.drew ?_ | refine below_drewN ?_ _ | refine Below.alloc ?_ (by first | omega | (simp; done) | (simp; omega)) _ | refine Below.setCell ?_ (by first | omega | (simp; done) | (simp; omega)) _ | refine Below.trans ?_ (Below.mono (by assumption) (by first | omega | (simp; done) | (simp; omega)))))).mono ?_; rintro e w1 ⟨rfl, hb1⟩; have hs1 := hb1.size))
          go_ret2
          first | exact ⟨_, by rw [E1.out]; rfl, by rw [E2.out]; exact own_nil _ _ _, (by repeat (first | exact Below.refl _ _ | assumption | refine Below.drew ?_ | refine below_drewN ?_ _ | refine Below.alloc ?_ (by first | omega | (simp; done) | (simp; omega)) _ | refine Below.setCell ?_ (by first | omega | (simp; done) | (simp; omega)) _ | refine Below.trans ?_ (Below.mono (by assumption) (by first | omega | (simp; done) | (simp; omega)))))⟩ | exact ⟨_, by rw [E1.out]; rfl, by rw [E2.out]; exact own_mono (own_below HOWN.out hb1) (by omega), (by repeat (first | exact Below.refl _ _ | assumption | refine Below.drew ?_ | refine below_drewN ?_ _ | refine Below.alloc ?_ (by first | omega | (simp; done) | (simp; omega)) _ | refine Below.setCell ?_ (by first | omega | (simp; done) | (simp; omega)) _ | refine Below.trans ?_ (Below.mono (by assumption) (by first | omega | (simp; done) | (simp; omega)))))⟩

end Go.Proofs.Ytbpphcdhbbhjpaa
