/- The library's Cut at this program. Conditions: a text below 4294967281 bytes; the library's variable holds some number. -/
import Derived.Shelf.Strings.Cut
import Derived.Test.YtagfleajkalgiaaNum
namespace Go.Proofs
open Go.Shelf
def Try.lays145_ren : Go.Shelf.Ren := ⟨fun | 145 => 55 | 220 => 66 | 219 => 71 | 217 => 72 | 225 => 73 | 224 => 74 | 267 => 75 | 266 => 76 | 314 => 77 | n => n, fun | 9 => 9 | 4 => 4 | 59 => 68 | 3 => 3 | 5 => 5 | 46 => 82 | 146 => 84 | 51 => 83 | n => n, fun | 1 => 0 | n => n⟩
theorem Try.lays145 : Go.Proofs.Lays.n145 Try.prog Try.lays145_ren := {
  mixed := by kernel_rfl
  f145 := Try.func55.trans (congrArg some (by kernel_rfl))
  f217 := Try.func72.trans (congrArg some (by kernel_rfl))
  f219 := Try.func71.trans (congrArg some (by kernel_rfl))
  f220 := Try.func66.trans (congrArg some (by kernel_rfl))
  f224 := Try.func74.trans (congrArg some (by kernel_rfl))
  f225 := Try.func73.trans (congrArg some (by kernel_rfl))
  f266 := Try.func76.trans (congrArg some (by kernel_rfl))
  f267 := Try.func75.trans (congrArg some (by kernel_rfl))
  f314 := Try.func77.trans (congrArg some (by kernel_rfl))
  t3 := Try.underlying3
  a3 := Try.isAgg3
  z3 := Try.sizeOf3
  v3 := Try.zeroValue3
  t4 := Try.underlying4
  a4 := Try.isAgg4
  z4 := Try.sizeOf4
  v4 := Try.zeroValue4
  t5 := Try.underlying5
  a5 := Try.isAgg5
  z5 := Try.sizeOf5
  v5 := Try.zeroValue5
  t9 := Try.underlying9
  a9 := Try.isAgg9
  z9 := Try.sizeOf9
  v9 := Try.zeroValue9
  t46 := Try.underlying82
  a46 := Try.isAgg82
  z46 := Try.sizeOf82
  v46 := Try.zeroValue82
  t51 := Try.underlying83
  a51 := Try.isAgg83
  z51 := Try.sizeOf83
  v51 := Try.zeroValue83
  t59 := Try.underlying68
  a59 := Try.isAgg68
  z59 := Try.sizeOf68
  v59 := Try.zeroValue68
  t146 := Try.underlying84
  a146 := Try.isAgg84
  z146 := Try.sizeOf84
  v146 := Try.zeroValue84
  g1 := by kernel_rfl }
end Go.Proofs
namespace Go.Proofs.Ytagfleajkalgiaa
open Go.RowKit
theorem cut_miss (l : List UInt8) (b : UInt8) (m : Int) (hl : l.length < 4294967281) (h : b ∉ l) (w : World) (hm : w.cell? ⟨0, 0, none⟩ = some (.int .i64 m)) :
    Calls Try.prog 55 #[.string (bs l), .string ⟨#[b]⟩] w fun e w' => e = .returned (.tuple #[.string (bs l), .string ⟨#[]⟩, .bool false]) ∧ Below w.heap.size w w' := by
  refine (Any.strings_Cut Try.lays145 (bs l) ⟨#[b]⟩ m w hl hm).mono ?_
  rintro e w' ⟨he, n, rfl⟩
  refine ⟨?_, below_drewN (Below.refl _ _) n⟩
  have e2 : Lib.cut (bs l).data.toList [b] = (l, [], false) := cut_none h
  rw [he, show (⟨#[b]⟩ : ByteArray).data.toList = [b] from rfl, e2]
  rfl
theorem cut_hit (p r : List UInt8) (b : UInt8) (m : Int) (hl : (p ++ b :: r).length < 4294967281) (h : b ∉ p) (w : World) (hm : w.cell? ⟨0, 0, none⟩ = some (.int .i64 m)) :
    Calls Try.prog 55 #[.string (bs (p ++ b :: r)), .string ⟨#[b]⟩] w fun e w' => e = .returned (.tuple #[.string (bs p), .string (bs r), .bool true]) ∧ Below w.heap.size w w' := by
  refine (Any.strings_Cut Try.lays145 (bs (p ++ b :: r)) ⟨#[b]⟩ m w hl hm).mono ?_
  rintro e w' ⟨he, n, rfl⟩
  refine ⟨?_, below_drewN (Below.refl _ _) n⟩
  have e2 : Lib.cut (bs (p ++ b :: r)).data.toList [b] = (p, r, true) := cut_some h
  rw [he, show (⟨#[b]⟩ : ByteArray).data.toList = [b] from rfl, e2]
  rfl

end Go.Proofs.Ytagfleajkalgiaa
