/- Walk of the record laws' awake. -/
import Derived.Test.YtjjgckbjoficgaaRecord
namespace Go.Proofs.Ytjjgckbjoficgaa
open Go.RowKit Mem
set_option linter.unusedSimpArgs false
set_option linter.unusedVariables false
attribute [local irreducible] Go.Calls

theorem aw_own : ownV 1 5 = 4294967301 := by decide
theorem aw_client : clientV 4294967301 = 1 := by decide
theorem aw_right : rightV 1 1 1 1 = true := by decide
set_option maxHeartbeats 1000000 in
theorem ecawake_any (w : World) : Calls Try.prog 7 #[] w fun e w' => e = .returned (.bool true) ∧ Below w.heap.size w w' := by
  go_enter Try.func7, Try.ntmps7
  go_wp2_with fail
  refine (own_any 1 5 (by omega) w).mono ?_
  rintro e w1 ⟨rfl, hk1⟩
  rw [aw_own]
  go_wp2_with fail
  refine (client_any 4294967301 (by omega) w1).mono ?_
  rintro e w2 ⟨rfl, hk2⟩
  rw [aw_client]
  go_wp2_with fail
  refine (right_any 1 1 1 (by omega) (by omega) _ 1 1 _).mono ?_
  rintro e w3 ⟨rfl, hk3⟩
  rw [aw_right]
  have hk := nest (nest hk1 hk2) (nest (more (Below.refl _ _) _) hk3)
  go_wp2_with fail
  go_ret
  exact ⟨rfl, hk⟩
end Go.Proofs.Ytjjgckbjoficgaa
