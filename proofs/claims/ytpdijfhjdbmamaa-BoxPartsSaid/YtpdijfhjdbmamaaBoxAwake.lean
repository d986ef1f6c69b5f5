/- Walk of the box laws' awake. -/
import Derived.Test.YtpdijfhjdbmamaaBoxOwn
namespace Go.Proofs.Ytpdijfhjdbmamaa
open Go.RowKit Mem
set_option linter.unusedSimpArgs false
set_option linter.unusedVariables false
attribute [local irreducible] Go.Calls

theorem aw_span : spanV (2, 5, 9) = (4, 9, true) := by decide
theorem aw_in : inV (1, 0, 0) 7 = true := by decide
theorem aw_rightb : rightB 1 [(1, 0, 0)] = true := by decide
set_option maxHeartbeats 1000000 in
theorem bawake_any (w : World) : Calls Try.prog 9 #[] w fun e w' => e = .returned (.bool true) ∧ Below w.heap.size w w' := by
  go_enter Try.func9, Try.ntmps9
  go_wp2_with fail
  refine (ospan_any 2 5 9 (by omega) (by omega) w).mono ?_
  rintro e w1 ⟨rfl, hk1⟩
  rw [aw_span]
  have hX := nest hk1 (more (Below.refl _ _) (.cells #[.int .u32 4, .int .u32 9] 31))
  have HX := Lib.hid hX
  clear hX hk1
  go_wp2_with fail
  refine (oin_any 1 0 0 7 (by omega) (by omega) (by omega) _).mono ?_
  rintro e w2 ⟨rfl, hk2⟩
  rw [aw_in]
  have HX2 := Lib.hid (nest HX.out hk2)
  clear hk2
  go_wp2_with fail
  refine (orightb_any 1 _ [(1, 0, 0)] _ (Row.lit (E := rngE) 0 _ _ _ 1 _ (by simp [Enc.flat, tripE]) rfl rfl (Nat.zero_le _) (by simp [maxLen])).rd).mono ?_
  rintro e w3 ⟨rfl, hk3⟩
  rw [aw_rightb]
  have hk := nest HX2.out (nest (more (Below.refl _ _) _) hk3)
  go_wp2_with fail
  go_ret
  exact ⟨rfl, hk⟩
end Go.Proofs.Ytpdijfhjdbmamaa
