/- The document's answers for package links (petasosref11.Far). -/
import Derived.Test.YtbhnpidbgckinaaDiceRef
set_option maxRecDepth 4000
namespace Go.Proofs.Ytbhnpidbgckinaa
open Go.RowKit Mem
set_option linter.unusedSimpArgs false
set_option linter.unusedVariables false
attribute [local irreducible] Go.Calls

theorem droll_32 (s : Int) : ∃ k : Nat, k < 32 ∧ droll s 32 = (k : Int) := by
  unfold droll
  rw [if_neg (by omega)]
  exact ⟨(dmix (dnext s) % 32).toNat, by omega, by omega⟩
/-- how far one looks, from a state of the dice; the state behind it -/
def farV (s : Int) : Int := 2 ^ (droll s 32).toNat + dmix (dnext (dnext s)) % 2 ^ (droll s 32).toNat
def farS (s : Int) : Int := dnext (dnext s)
theorem farV_bd (s : Int) : 1 ≤ farV s ∧ farV s ≤ 4294967295 := by
  obtain ⟨k, hk, hd⟩ := droll_32 s
  unfold farV
  rw [hd, Int.toNat_natCast]
  have hp32 : (2 : Int) ^ k ≤ 2147483648 := by
    have : (2 : Int) ^ k ≤ 2 ^ 31 := by
      have h := Nat.pow_le_pow_right (n := 2) (by decide) (show k ≤ 31 by omega)
      exact_mod_cast h
    simpa using this
  have hp1 : (1 : Int) ≤ (2 : Int) ^ k := by
    have h := Nat.one_le_two_pow (n := k)
    exact_mod_cast h
  generalize (2 : Int) ^ k = P at *
  have hr0 := Int.emod_nonneg (dmix (dnext (dnext s))) (show P ≠ 0 by omega)
  have hr1 := Int.emod_lt_of_pos (dmix (dnext (dnext s))) (show 0 < P by omega)
  omega
end Go.Proofs.Ytbhnpidbgckinaa
