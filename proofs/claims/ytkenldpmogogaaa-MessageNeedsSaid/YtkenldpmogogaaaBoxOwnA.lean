/- Package box: is, Span, In. -/
import Derived.Test.YtkenldpmogogaaaBoxRef3
import Derived.Test.YtkenldpmogogaaaWalk
import Derived.Test.YtkenldpmogogaaaOctNew
set_option maxRecDepth 4000
namespace Go.Proofs.Ytkenldpmogogaaa
open Go.RowKit Mem Cir
set_option linter.unusedSimpArgs false
set_option linter.unusedVariables false
attribute [local irreducible] Go.Calls

theorem ois_any (k : Int) (w : World) : Calls Try.prog 71 #[.int .i64 k] w fun e w' => e = .returned (.bool (kindV k)) ∧ Below w.heap.size w w' := by
  by_cases h1 : k = 1
  · subst h1
    go_enter Try.func71, Try.ntmps71
    go_wp2_with fail
    go_ret
    exact ⟨rfl, Below.refl _ _⟩
  have d1 : (k == 1) = false := by simpa using h1
  by_cases h2 : k = 2
  · subst h2
    go_enter Try.func71, Try.ntmps71
    go_wp2_with fail
    go_ret
    exact ⟨rfl, Below.refl _ _⟩
  have d2 : (k == 2) = false := by simpa using h2
  by_cases h3 : k = 3
  · subst h3
    go_enter Try.func71, Try.ntmps71
    go_wp2_with fail
    go_ret
    exact ⟨rfl, Below.refl _ _⟩
  have d3 : (k == 3) = false := by simpa using h3
  have e : kindV k = false := by simp [kindV]; omega
  rw [e]
  go_enter Try.func71, Try.ntmps71
  go_wp2_with fail
  go_ret
  exact ⟨rfl, Below.refl _ _⟩
theorem span_in (k a b v : Int) : inV (k, a, b) v = ((spanV (k, a, b)).2.2 && decide (beh (spanV (k, a, b)).1 v ≤ beh (spanV (k, a, b)).1 (spanV (k, a, b)).2.1)) := by
  by_cases h1 : k = 1
  · subst h1
    have e : spanV (1, a, b) = (4294967295, 4294967295, true) := by simp [spanV]
    have e2 : inV (1, a, b) v = true := by simp [inV]
    rw [e, e2]
    have : beh 4294967295 v ≤ beh 4294967295 4294967295 := by unfold beh; omega
    rw [decide_eq_true this]
    rfl
  · have d1 : (k == 1) = false := by simpa using h1
    by_cases h2 : k = 2
    · subst h2
      have e : spanV (2, a, b) = ((a - 1) % 4294967296, b, true) := by simp [spanV]
      have e2 : inV (2, a, b) v = decide ((v - a) % 4294967296 ≤ (b - a) % 4294967296) := by simp [inV]
      rw [e, e2, Bool.true_and]
      show _ = decide (beh ((a - 1) % 4294967296) v ≤ beh ((a - 1) % 4294967296) b)
      have : ((v - a) % 4294967296 ≤ (b - a) % 4294967296) ↔ (beh ((a - 1) % 4294967296) v ≤ beh ((a - 1) % 4294967296) b) := by unfold beh; omega
      simp only [this]
    · have d2 : (k == 2) = false := by simpa using h2
      have e : spanV (k, a, b) = (0, 0, false) := by unfold spanV; rw [if_neg h1, if_neg h2]
      have e2 : inV (k, a, b) v = false := by simp [inV, d1, d2]
      rw [e, e2, Bool.false_and]
end Go.Proofs.Ytkenldpmogogaaa
