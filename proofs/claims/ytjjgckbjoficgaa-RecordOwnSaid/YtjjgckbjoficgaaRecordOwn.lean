/- Walk of the law RecordOwn. -/
import Derived.Test.YtjjgckbjoficgaaRecAwake
namespace Go.Proofs.Ytjjgckbjoficgaa.recordOwn
open Go.RowKit Mem
set_option linter.unusedSimpArgs false
set_option linter.unusedVariables false
attribute [local irreducible] Go.Calls

theorem u64_nonneg (x : Int) : 0 ≤ IntKind.u64.wrap x := by rw [IntKind.wrap_u64]; omega
theorem rem16 (x : Int) : ∃ a : Int, 0 ≤ a ∧ a < 16 ∧ (IntKind.u64.wrap x).tmod 16 = a :=
  ⟨_, Int.tmod_nonneg 16 (u64_nonneg x), Int.tmod_lt_of_pos _ (by decide), rfl⟩
theorem own_eq {a m : Int} (h0 : 0 ≤ a) (h1 : a < 16) : ownV a m = a * 4294967296 + m := if_neg (by omega)
theorem client_own {a m : Int} (h0 : 0 ≤ a) (h1 : a < 16) (hm : 0 ≤ m ∧ m ≤ 4294967295) : clientV (a * 4294967296 + m) = a := by
  have e : (a * 4294967296 + m) / 4294967296 = a := by omega
  unfold clientV
  rw [e, if_neg (by omega)]
theorem own_none (m : Int) : ownV 16 m = 0 := if_pos (.inr (by decide))
theorem client_none : clientV 68719476736 = -1 := by decide
set_option maxHeartbeats 2000000 in
theorem walk (a0 : Int) (ba : -9223372036854775808 ≤ a0 ∧ a0 ≤ 9223372036854775807) (b0 : Int) (bb : -9223372036854775808 ≤ b0 ∧ b0 ≤ 9223372036854775807) (m : Int) (bm : 0 ≤ m ∧ m ≤ 4294967295) (n : Int) (bn : 0 ≤ n ∧ n ≤ 4294967295) (w : World) :
    Calls Try.prog 5 #[.int .i64 a0, .int .i64 b0, .int .u32 m, .int .u32 n] w fun e w' => e = .returned (.bool true) ∧ Below w.heap.size w w' := by
  obtain ⟨a, ha0, ha1, ha⟩ := rem16 a0
  obtain ⟨b, hb0, hb1, hb⟩ := rem16 b0
  have hab : a = b ∨ a ≠ b := by omega
  have hmn : m = n ∨ m ≠ n := by omega
  go_enter Try.func5, Try.ntmps5
  go_wp2_with fail
  refine (own_any a m bm w).mono ?_
  rintro e w1 ⟨rfl, hk1⟩
  rw [own_eq ha0 ha1]
  go_wp2_with fail
  refine (own_any b n bn w1).mono ?_
  rintro e w2 ⟨rfl, hk2⟩
  rw [own_eq hb0 hb1]
  clear ha hb
  go_wp2_with fail
  refine (ecawake_any w2).mono ?_
  rintro e w3 ⟨rfl, hk3⟩
  go_wp2_with fail
  refine (client_any _ (by omega) w3).mono ?_
  rintro e w4 ⟨rfl, hk4⟩
  rw [client_own ha0 ha1 bm]
  go_wp2_with fail
  refine (client_any _ (by omega) w4).mono ?_
  rintro e w5 ⟨rfl, hk5⟩
  rw [client_own hb0 hb1 bn]
  have hk : Below w.heap.size w w5 := nest (nest (nest (nest hk1 hk2) hk3) hk4) hk5
  clear hk1 hk2 hk3 hk4 hk5
  have e1 : (a * 4294967296 + m == b * 4294967296 + n) = ((a == b) && (m == n)) := by
    rw [Bool.eq_iff_iff]
    simp only [beq_iff_eq, Bool.and_eq_true]
    omega
  by_cases hab : a = b
  · subst hab
    have e2 : (a * 4294967296 + m == a * 4294967296 + n) = (m == n) := by rw [e1]; simp
    clear e1
    go_wp2_with fail
    refine (own_any 16 m bm w5).mono ?_
    rintro e w6 ⟨rfl, hk6⟩
    rw [own_none]
    go_wp2_with fail
    refine (client_any 68719476736 (by omega) w6).mono ?_
    rintro e w7 ⟨rfl, hk7⟩
    rw [client_none]
    go_wp2_with fail
    go_ret
    exact ⟨rfl, nest (nest hk hk6) hk7⟩
  · have e2 : (a == b) = false := by simpa using hab
    rw [e2, Bool.false_and] at e1
    go_wp2_with fail
    refine (own_any 16 m bm w5).mono ?_
    rintro e w6 ⟨rfl, hk6⟩
    rw [own_none]
    go_wp2_with fail
    refine (client_any 68719476736 (by omega) w6).mono ?_
    rintro e w7 ⟨rfl, hk7⟩
    rw [client_none]
    go_wp2_with fail
    go_ret
    exact ⟨rfl, nest (nest hk hk6) hk7⟩
end Go.Proofs.Ytjjgckbjoficgaa.recordOwn
