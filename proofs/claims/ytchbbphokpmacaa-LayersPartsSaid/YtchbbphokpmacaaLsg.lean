/- The shelf's Grow, and Sort of nothing, laid at this translation. -/
import Derived.Test.YtchbbphokpmacaaLsh
import Derived.Shelf.Slices.In.SortNone
import Derived.Shelf.Spec.SlicesGrow
namespace Go.Proofs
open Go.Shelf
open Go.Sort Go.RowKit in
theorem Try.slices_Sort_int_none (p : Option Addr) (cap : Nat) (w : World) :
    Calls Try.prog 135 #[.slice p 0 cap] w fun e w' => e = .returned (.tuple #[]) ∧ w' = w := Any.slices_Sort_int_none Try.lays189 p cap w
def Try.lays8_ren : Go.Shelf.Ren := ⟨fun | 4 => 152 | n => n, fun | 22 => 45 | 25 => 3 | n => n, fun | n => n⟩
theorem Try.lays8 : Go.Proofs.Lays8.n4 Try.prog Try.lays8_ren := {
  mixed := by kernel_rfl
  f4 := ⟨Try.f152.name, by decide, Try.func152.trans (congrArg some (by kernel_rfl))⟩
  t0 := Try.underlying0
  a0 := Try.isAgg0
  z0 := Try.sizeOf0
  v0 := Try.zeroValue0
  t3 := Try.underlying3
  a3 := Try.isAgg3
  z3 := Try.sizeOf3
  v3 := Try.zeroValue3
  t4 := Try.underlying4
  a4 := Try.isAgg4
  z4 := Try.sizeOf4
  v4 := Try.zeroValue4
  t9 := Try.underlying9
  a9 := Try.isAgg9
  z9 := Try.sizeOf9
  v9 := Try.zeroValue9
  t20 := Try.underlying20
  a20 := Try.isAgg20
  z20 := Try.sizeOf20
  v20 := Try.zeroValue20
  t22 := Try.underlying45
  a22 := Try.isAgg45
  z22 := Try.sizeOf45
  v22 := Try.zeroValue45 }
end Go.Proofs
