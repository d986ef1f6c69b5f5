/- A library function at a type of this program: the library's contract laid, in plain words (by program). -/
import Derived.Shelf.SlicesE.DeleteFunc
import Derived.Test.YtpgljdngbiicmaaRows
set_option maxRecDepth 4000
namespace Go.Proofs.Ytpgljdngbiicmaa
open Go.Shelf
def layDelU_ren : Go.Shelf.Ren := ⟨fun | 10 => 41 | 6 => 51 | n => n, fun | 22 => 22 | 23 => 24 | 25 => 42 | 3 => 3 | 4 => 4 | 0 => 0 | n => n, fun | n => n⟩
theorem layDelU : Go.Proofs.SlLaysH.n10 Try.prog layDelU_ren := {
  mixed := by kernel_rfl
  f6 := ⟨Try.f51.name, by decide, Try.func51.trans (congrArg some (by kernel_rfl))⟩
  f10 := ⟨Try.f41.name, by decide, Try.func41.trans (congrArg some (by kernel_rfl))⟩
  t0 := Try.underlying0
  a0 := Try.isAgg0
  z0 := Try.sizeOf0
  v0 := Try.zeroValue0
  t3 := Try.underlying3
  a3 := Try.isAgg3
  z3 := Try.sizeOf3
  v3 := Try.zeroValue3
  t4 := Try.underlying4
  a4 := Try.isAgg4
  z4 := Try.sizeOf4
  v4 := Try.zeroValue4
  t22 := Try.underlying22
  a22 := Try.isAgg22
  z22 := Try.sizeOf22
  v22 := Try.zeroValue22
  a23 := Try.isAgg24
  z23 := Try.sizeOf24
  t25 := Try.underlying42
  a25 := Try.isAgg42
  z25 := Try.sizeOf42
  v25 := Try.zeroValue42 }
end Go.Proofs.Ytpgljdngbiicmaa
