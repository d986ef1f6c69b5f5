/- Package box: is, Span, In. -/
import Derived.Test.YtpdijfhjdbmamaaBoxRef3
import Derived.Test.YtpdijfhjdbmamaaWalk
import Derived.Test.YtpdijfhjdbmamaaOctNew
namespace Go.Proofs.Ytpdijfhjdbmamaa
open Go.RowKit Mem Cir
set_option linter.unusedSimpArgs false
set_option linter.unusedVariables false
attribute [local irreducible] Go.Calls

theorem ois_any (k : Int) (w : World) : Calls Try.prog 30 #[.int .i64 k] w fun e w' => e = .returned (.bool (kindV k)) ∧ Below w.heap.size w w' := by
  by_cases h1 : k = 1
  · subst h1
    go_enter Try.func30, Try.ntmps30
    go_wp2_with fail
    go_ret
    exact ⟨rfl, Below.refl _ _⟩
  have d1 : (k == 1) = false := by simpa using h1
  by_cases h2 : k = 2
  · subst h2
    go_enter Try.func30, Try.ntmps30
    go_wp2_with fail
    go_ret
    exact ⟨rfl, Below.refl _ _⟩
  have d2 : (k == 2) = false := by simpa using h2
  by_cases h3 : k = 3
  · subst h3
    go_enter Try.func30, Try.ntmps30
    go_wp2_with fail
    go_ret
    exact ⟨rfl, Below.refl _ _⟩
  have d3 : (k == 3) = false := by simpa using h3
  have e : kindV k = false := by simp [kindV]; omega
  rw [e]
  go_enter Try.func30, Try.ntmps30
  go_wp2_with fail
  go_ret
  exact ⟨rfl, Below.refl _ _⟩
set_option maxHeartbeats 400000 in
theorem ospan_any (k a b : Int) (ba : 0 ≤ a ∧ a ≤ 4294967295) (bb : 0 ≤ b ∧ b ≤ 4294967295) (w : World) : Calls Try.prog 12 #[.agg #[.int .i64 k, .int .u32 a, .int .u32 b]] w fun e w' =>
    e = .returned (.tuple #[.agg #[.int .u32 (spanV (k, a, b)).1, .int .u32 (spanV (k, a, b)).2.1], .bool (spanV (k, a, b)).2.2]) ∧ Below w.heap.size w w' := by
  by_cases h1 : k = 1
  · subst h1
    have e : spanV (1, a, b) = (4294967295, 4294967295, true) := by simp [spanV]
    rw [e]
    go_enter Try.func12, Try.ntmps12
    go_wp2_with fail
    refine bodyPost_ret (results_blk_tmp (l := [.int .u32 4294967295, .int .u32 4294967295]) rfl Try.underlying31 span_info rfl rfl (Blk.newAt _ _ _ (size_alloc _ _).symm)) rfl ?_
    exact ⟨rfl, more (more (Below.refl _ _) _) _⟩
  · have d1 : (k == 1) = false := by simpa using h1
    by_cases h2 : k = 2
    · subst h2
      have e : spanV (2, a, b) = ((a - 1) % 4294967296, b, true) := by simp [spanV]
      rw [e]
      go_enter Try.func12, Try.ntmps12
      go_wp2_with fail
      refine bodyPost_ret (results_blk_tmp (l := [.int .u32 (IntKind.u32.wrap (a - 1)), .int .u32 b]) rfl Try.underlying31 span_info rfl rfl (Blk.newAt _ _ _ (size_alloc _ _).symm)) rfl ?_
      exact ⟨by simp [IntKind.wrap, IntKind.bits, IntKind.signed], more (more (Below.refl _ _) _) _⟩
    · have d2 : (k == 2) = false := by simpa using h2
      have e : spanV (k, a, b) = (0, 0, false) := by unfold spanV; rw [if_neg h1, if_neg h2]
      rw [e]
      go_enter Try.func12, Try.ntmps12
      go_wp2_with fail
      refine bodyPost_ret (results_blk_tmp (l := [.int .u32 0, .int .u32 0]) rfl Try.underlying31 span_info rfl rfl (Blk.newAt _ _ _ (size_alloc _ _).symm)) rfl ?_
      exact ⟨rfl, more (more (Below.refl _ _) _) _⟩
theorem span_in (k a b v : Int) : inV (k, a, b) v = ((spanV (k, a, b)).2.2 && decide (beh (spanV (k, a, b)).1 v ≤ beh (spanV (k, a, b)).1 (spanV (k, a, b)).2.1)) := by
  by_cases h1 : k = 1
  · subst h1
    have e : spanV (1, a, b) = (4294967295, 4294967295, true) := by simp [spanV]
    have e2 : inV (1, a, b) v = true := by simp [inV]
    rw [e, e2]
    have : beh 4294967295 v ≤ beh 4294967295 4294967295 := by unfold beh; omega
    rw [decide_eq_true this]
    rfl
  · have d1 : (k == 1) = false := by simpa using h1
    by_cases h2 : k = 2
    · subst h2
      have e : spanV (2, a, b) = ((a - 1) % 4294967296, b, true) := by simp [spanV]
      have e2 : inV (2, a, b) v = decide ((v - a) % 4294967296 ≤ (b - a) % 4294967296) := by simp [inV]
      rw [e, e2, Bool.true_and]
      show _ = decide (beh ((a - 1) % 4294967296) v ≤ beh ((a - 1) % 4294967296) b)
      have : ((v - a) % 4294967296 ≤ (b - a) % 4294967296) ↔ (beh ((a - 1) % 4294967296) v ≤ beh ((a - 1) % 4294967296) b) := by unfold beh; omega
      simp only [this]
    · have d2 : (k == 2) = false := by simpa using h2
      have e : spanV (k, a, b) = (0, 0, false) := by unfold spanV; rw [if_neg h1, if_neg h2]
      have e2 : inV (k, a, b) v = false := by simp [inV, d1, d2]
      rw [e, e2, Bool.false_and]
set_option maxHeartbeats 400000 in
theorem oin_any (k a b v : Int) (ba : 0 ≤ a ∧ a ≤ 4294967295) (bb : 0 ≤ b ∧ b ≤ 4294967295) (bv : 0 ≤ v ∧ v ≤ 4294967295) (w : World) : Calls Try.prog 23 #[.agg #[.int .i64 k, .int .u32 a, .int .u32 b], .int .u32 v] w fun e w' => e = .returned (.bool (inV (k, a, b) v)) ∧ Below w.heap.size w w' := by
  have hi := span_in k a b v
  generalize hs : spanV (k, a, b) = s at hi
  obtain ⟨f, t, o⟩ := s
  simp only [] at hi
  have hb0 : Below w.heap.size w (w.alloc (.cells #[.int .i64 k, .int .u32 a, .int .u32 b] 26)) := more (Below.refl _ _) _
  have HB0 := Lib.hid hb0
  have HI := Lib.hid hi
  have HS := Lib.hid hs
  clear hb0 hi hs
  go_enter Try.func23, Try.ntmps23
  go_wp2_with fail
  refine (ospan_any k a b ba bb _).mono ?_
  rintro e w1 ⟨rfl, hb1⟩
  rw [HS.out]
  have HB1 := Lib.hid (nest (nest HB0.out hb1) (more (Below.refl _ _) (.cells #[.int .u32 f, .int .u32 t] 31)))
  clear hb1
  cases o with
  | true =>
    go_wp2_with fail
    refine (has_any f t v _).mono ?_
    rintro e w2 ⟨rfl, hb2⟩
    have HB2 := Lib.hid (nest HB1.out hb2)
    clear hb2
    go_wp2_with fail
    go_ret
    exact ⟨by rw [HI.out]; rfl, HB2.out⟩
  | false =>
    go_wp2_with fail
    go_ret
    exact ⟨by rw [HI.out]; rfl, HB1.out⟩
end Go.Proofs.Ytpdijfhjdbmamaa
