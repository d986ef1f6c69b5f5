/- Walk of CircleSteps. -/
import Derived.Test.YtcpfdnndhgofgaaWalk
namespace Go.Proofs.Ytcpfdnndhgofgaa.circleSteps
open Go.RowKit Cir
theorem tri (a b c : Int) : (IntKind.u64.wrap (far a b + far b c - far a c)).tmod 4294967296 = 0 := by
  have e : ∀ n : Int, IntKind.u64.wrap n = n % 18446744073709551616 := fun n => by simp [IntKind.wrap, IntKind.bits, IntKind.signed]
  rw [e, IntWalk.rem_in _ _ (by omega)]; unfold far; omega
theorem walk (a : Int) (ha : 0 ≤ a ∧ a ≤ 4294967295) (b : Int) (hb : 0 ≤ b ∧ b ≤ 4294967295) (c : Int) (_hc : 0 ≤ c ∧ c ≤ 4294967295) (w : World) :
    Calls Try.prog 8 #[.int .u32 a, .int .u32 b, .int .u32 c] w fun e w' => e = .returned (.bool true) ∧ Below w.heap.size w w' := by
  have b1 := far_bd a b
  have b2 := far_bd b c
  have b3 := far_bd a c
  have b4 := far_bd b a
  have s1 := tri a b c
  have s3 : far a ((a + 7) % 4294967296) = 7 := by unfold far; omega
  by_cases h : a = b
  · subst h
    have z : far a a = 0 := by unfold far; omega
    go_enter Try.func8, Try.ntmps8
    go_wp2_with (first | (go_at_call 16; refine (far_any _ _ _).mono ?_; rintro e w' ⟨rfl, rfl⟩) | (go_at_call 11; refine (awake_any _).mono ?_; rintro e w' ⟨rfl, hb⟩))
    go_ret
    exact ⟨by simp, by assumption⟩
  · have s2 : far a b + far b a = 4294967296 := by unfold far; omega
    have e1 : (a == b) = false := by simpa using h
    have e2 : (a != b) = true := by simpa using h
    go_enter Try.func8, Try.ntmps8
    go_wp2_with (first | (go_at_call 16; refine (far_any _ _ _).mono ?_; rintro e w' ⟨rfl, rfl⟩) | (go_at_call 11; refine (awake_any _).mono ?_; rintro e w' ⟨rfl, hb⟩))
    go_ret
    exact ⟨by simp, by assumption⟩
end Go.Proofs.Ytcpfdnndhgofgaa.circleSteps
