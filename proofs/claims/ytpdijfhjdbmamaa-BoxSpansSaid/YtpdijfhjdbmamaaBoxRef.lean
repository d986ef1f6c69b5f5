/- The document's answers for package box (petasosref05): kind, In, Span, Right, Match, Empty, Pack. -/
import Derived.Test.YtpdijfhjdbmamaaOwnR
import Derived.Test.YtpdijfhjdbmamaaBoxPlans
import Derived.Test.YtpdijfhjdbmamaaRun
import Derived.Test.YtpdijfhjdbmamaaStructs
import Derived.Test.YtpdijfhjdbmamaaRefOctet
namespace Go.Proofs.Ytpdijfhjdbmamaa
open Go.RowKit Mem
set_option linter.unusedSimpArgs false
set_option linter.unusedVariables false
attribute [local irreducible] Go.Calls

/-- a kind that there is -/
def kindV (k : Int) : Bool := decide (1 ≤ k) && decide (k ≤ 3)
/-- is it in that range? -/
def inV (r : Int × Int × Int) (v : Int) : Bool := (r.1 == 1) || ((r.1 == 2) && decide ((v - r.2.1) % 4294967296 ≤ (r.2.2 - r.2.1) % 4294967296))
theorem rkind_any (k a b : Int) (w : World) : Calls Try.prog 31 #[.agg #[.int .i64 k, .int .u32 a, .int .u32 b]] w fun e w' => e = .returned (.bool (kindV k)) ∧ Below w.heap.size w w' := by
  by_cases h1 : 1 ≤ k
  · have e : kindV k = decide (k ≤ 3) := by simp [kindV, h1]
    rw [e]
    go_enter Try.func31, Try.ntmps31
    go_wp2_with fail
    go_ret
    exact ⟨rfl, more (Below.refl _ _) _⟩
  · have e : kindV k = false := by simp [kindV, h1]
    rw [e]
    go_enter Try.func31, Try.ntmps31
    go_wp2_with fail
    go_ret
    exact ⟨rfl, more (Below.refl _ _) _⟩
set_option maxHeartbeats 400000 in
theorem rin_any (k a b v : Int) (ba : 0 ≤ a ∧ a ≤ 4294967295) (bb : 0 ≤ b ∧ b ≤ 4294967295) (bv : 0 ≤ v ∧ v ≤ 4294967295) (w : World) : Calls Try.prog 24 #[.agg #[.int .i64 k, .int .u32 a, .int .u32 b], .int .u32 v] w fun e w' => e = .returned (.bool (inV (k, a, b) v)) ∧ Below w.heap.size w w' := by
  by_cases h1 : k = 1
  · subst h1
    have e : inV (1, a, b) v = true := by simp [inV]
    rw [e]
    go_enter Try.func24, Try.ntmps24
    go_wp2_with fail
    go_ret
    exact ⟨rfl, more (Below.refl _ _) _⟩
  · have d1 : (k == 1) = false := by simpa using h1
    by_cases h2 : k = 2
    · subst h2
      have e : inV (2, a, b) v = decide ((v - a) % 4294967296 ≤ (b - a) % 4294967296) := by simp [inV]
      rw [e]
      go_enter Try.func24, Try.ntmps24
      go_wp2_with fail
      go_ret
      exact ⟨by simp [IntKind.wrap, IntKind.bits, IntKind.signed], more (Below.refl _ _) _⟩
    · have d2 : (k == 2) = false := by simpa using h2
      have e : inV (k, a, b) v = false := by simp [inV, d1, d2]
      rw [e]
      go_enter Try.func24, Try.ntmps24
      go_wp2_with fail
      go_ret
      exact ⟨rfl, more (Below.refl _ _) _⟩
theorem span_info : (Try.prog.info? 31).map (·.size) = some 2 := by kernel_rfl
/-- the span of a range -/
def spanV (r : Int × Int × Int) : Int × Int × Bool := if r.1 = 1 then (4294967295, 4294967295, true) else if r.1 = 2 then ((r.2.1 - 1) % 4294967296, r.2.2, true) else (0, 0, false)
set_option maxHeartbeats 400000 in
theorem rspan_any (k a b : Int) (ba : 0 ≤ a ∧ a ≤ 4294967295) (w : World) : Calls Try.prog 13 #[.agg #[.int .i64 k, .int .u32 a, .int .u32 b]] w fun e w' =>
    e = .returned (.tuple #[.agg #[.int .u32 (spanV (k, a, b)).1, .int .u32 (spanV (k, a, b)).2.1], .bool (spanV (k, a, b)).2.2]) ∧ Below w.heap.size w w' := by
  by_cases h1 : k = 1
  · subst h1
    have e : spanV (1, a, b) = (4294967295, 4294967295, true) := by simp [spanV]
    rw [e]
    go_enter Try.func13, Try.ntmps13
    go_wp2_with fail
    refine bodyPost_ret (results_blk_tmp (l := [.int .u32 4294967295, .int .u32 4294967295]) rfl Try.underlying31 span_info rfl rfl (Blk.newAt _ _ _ (size_alloc _ _).symm)) rfl ?_
    exact ⟨rfl, more (more (Below.refl _ _) _) _⟩
  · have d1 : (k == 1) = false := by simpa using h1
    by_cases h2 : k = 2
    · subst h2
      have e : spanV (2, a, b) = ((a - 1) % 4294967296, b, true) := by simp [spanV]
      rw [e]
      go_enter Try.func13, Try.ntmps13
      go_wp2_with fail
      refine bodyPost_ret (results_blk_tmp (l := [.int .u32 (IntKind.u32.wrap (a - 1)), .int .u32 b]) rfl Try.underlying31 span_info rfl rfl (Blk.newAt _ _ _ (size_alloc _ _).symm)) rfl ?_
      exact ⟨by simp [IntKind.wrap, IntKind.bits, IntKind.signed], more (more (Below.refl _ _) _) _⟩
    · have d2 : (k == 2) = false := by simpa using h2
      have e : spanV (k, a, b) = (0, 0, false) := by unfold spanV; rw [if_neg h1, if_neg h2]
      rw [e]
      go_enter Try.func13, Try.ntmps13
      go_wp2_with fail
      refine bodyPost_ret (results_blk_tmp (l := [.int .u32 0, .int .u32 0]) rfl Try.underlying31 span_info rfl rfl (Blk.newAt _ _ _ (size_alloc _ _).symm)) rfl ?_
      exact ⟨rfl, more (more (Below.refl _ _) _) _⟩
end Go.Proofs.Ytpdijfhjdbmamaa
