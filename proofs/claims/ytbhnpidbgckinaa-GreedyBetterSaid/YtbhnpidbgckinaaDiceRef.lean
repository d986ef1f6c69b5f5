/- The document's answers for package dice (petasosref07): Step, Roll. -/
import Derived.Test.YtbhnpidbgckinaaMem
import Derived.Test.YtbhnpidbgckinaaDicePlans
import Derived.Test.YtbhnpidbgckinaaRun
import Derived.Lib.EndianBits
set_option maxRecDepth 4000
namespace Go.Proofs.Ytbhnpidbgckinaa
open Go.RowKit Mem
set_option linter.unusedSimpArgs false
set_option linter.unusedVariables false
attribute [local irreducible] Go.Calls

/-- the next state -/
def dnext (s : Int) : Int := (s + 11400714819323198485) % 18446744073709551616
theorem dnext_bd (s : Int) : 0 ≤ dnext s ∧ dnext s ≤ 18446744073709551615 := by unfold dnext; omega
/-- what a state tells -/
def xr (x d : Int) : Int := bits .xor .u64 x (x / d)
def dmix (x : Int) : Int := xr (IntKind.u64.wrap (xr (IntKind.u64.wrap (xr x 1073741824 * 13787848793156543929)) 134217728 * 10723151780598845931)) 2147483648
theorem xr_bd (x d : Int) : 0 ≤ xr x d ∧ xr x d ≤ 18446744073709551615 := by
  unfold xr bits
  rw [IntKind.wrap_u64]
  omega
attribute [irreducible] dnext
theorem dmix_bd (x : Int) : 0 ≤ dmix x ∧ dmix x ≤ 18446744073709551615 := xr_bd _ _
/-- what a roll of n tells, and the state behind it -/
def droll (s n : Int) : Int := if n < 1 then 0 else dmix (dnext s) % n
def dafter (s n : Int) : Int := if n < 1 then s else dnext s
theorem dafter_bd (s n : Int) (bs : 0 ≤ s ∧ s ≤ 18446744073709551615) : 0 ≤ dafter s n ∧ dafter s n ≤ 18446744073709551615 := by
  unfold dafter
  split
  · exact bs
  · exact dnext_bd s
end Go.Proofs.Ytbhnpidbgckinaa
