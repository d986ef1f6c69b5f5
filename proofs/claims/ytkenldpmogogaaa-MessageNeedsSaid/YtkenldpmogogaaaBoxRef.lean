/- The document's answers for package box (petasosref05): kind, In, Span, Right, Match, Empty, Pack. -/
import Derived.Test.YtkenldpmogogaaaOwnR
import Derived.Test.YtkenldpmogogaaaBoxPlans
import Derived.Test.YtkenldpmogogaaaRun
import Derived.Test.YtkenldpmogogaaaStructs
import Derived.Test.YtkenldpmogogaaaRefOctet
set_option maxRecDepth 4000
namespace Go.Proofs.Ytkenldpmogogaaa
open Go.RowKit Mem
set_option linter.unusedSimpArgs false
set_option linter.unusedVariables false
attribute [local irreducible] Go.Calls

/-- a kind that there is -/
def kindV (k : Int) : Bool := decide (1 ≤ k) && decide (k ≤ 3)
/-- is it in that range? -/
def inV (r : Int × Int × Int) (v : Int) : Bool := (r.1 == 1) || ((r.1 == 2) && decide ((v - r.2.1) % 4294967296 ≤ (r.2.2 - r.2.1) % 4294967296))
theorem rkind_any (k a b : Int) (w : World) : Calls Try.prog 59 #[.agg #[.int .i64 k, .int .u32 a, .int .u32 b]] w fun e w' => e = .returned (.bool (kindV k)) ∧ Below w.heap.size w w' := by
  by_cases h1 : 1 ≤ k
  · have e : kindV k = decide (k ≤ 3) := by simp [kindV, h1]
    rw [e]
    go_enter Try.func59, Try.ntmps59
    go_wp2_with fail
    go_ret
    exact ⟨rfl, more (Below.refl _ _) _⟩
  · have e : kindV k = false := by simp [kindV, h1]
    rw [e]
    go_enter Try.func59, Try.ntmps59
    go_wp2_with fail
    go_ret
    exact ⟨rfl, more (Below.refl _ _) _⟩
theorem span_info : (Try.prog.info? 30).map (·.size) = some 2 := by kernel_rfl
/-- the span of a range -/
def spanV (r : Int × Int × Int) : Int × Int × Bool := if r.1 = 1 then (4294967295, 4294967295, true) else if r.1 = 2 then ((r.2.1 - 1) % 4294967296, r.2.2, true) else (0, 0, false)
end Go.Proofs.Ytkenldpmogogaaa
