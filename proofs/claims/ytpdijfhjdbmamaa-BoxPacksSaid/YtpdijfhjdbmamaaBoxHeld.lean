/- Walk of the box laws' held. -/
import Derived.Test.YtpdijfhjdbmamaaBoxPacksMath
namespace Go.Proofs.Ytpdijfhjdbmamaa
open Go.RowKit Mem
set_option linter.unusedSimpArgs false
set_option linter.unusedVariables false
attribute [local irreducible] Go.Calls

theorem rng_info : (Try.prog.info? 26).map (·.size) = some 3 := by kernel_rfl
set_option maxHeartbeats 400000 in
theorem held_any (k a b : Int) (w : World) : Calls Try.prog 29 #[.agg #[.int .i64 k, .int .u32 a, .int .u32 b]] w fun e w' => e = .returned (.agg #[.int .i64 (heldV (k, a, b)).1, .int .u32 a, .int .u32 b]) ∧ Below w.heap.size w w' := by
  have hw : wrap64 (1 + wrap64 ((IntKind.u64.wrap k).tmod 3)) = (heldV (k, a, b)).1 := by
    show wrap64 (1 + wrap64 ((IntKind.u64.wrap k).tmod 3)) = 1 + (IntKind.u64.wrap k).tmod 3
    have h1 := Int.tmod_nonneg 3 (u64_bd k).1
    have h2 := Int.tmod_lt_of_pos (IntKind.u64.wrap k) (show (0 : Int) < 3 by decide)
    unfold wrap64
    omega
  go_enter Try.func29, Try.ntmps29
  go_wp2_with fail
  rw [← hw]
  refine bodyPost_ret (results_blk (l := [.int .i64 (wrap64 (1 + wrap64 ((IntKind.u64.wrap k).tmod 3))), .int .u32 a, .int .u32 b]) rfl Try.underlying26 rng_info rfl rfl (Blk.newAt _ _ _ (size_alloc _ _).symm)) rfl ?_
  exact ⟨rfl, more (more (Below.refl _ _) _) _⟩
end Go.Proofs.Ytpdijfhjdbmamaa
