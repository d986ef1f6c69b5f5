/- Walk of the law OctetNil. -/
import Derived.Test.YtejmidfkedalgaaOctAwake
namespace Go.Proofs.Ytejmidfkedalgaa.octetNil
open Go.RowKit Mem
set_option linter.unusedSimpArgs false
set_option linter.unusedVariables false
attribute [local irreducible] Go.Calls

set_option maxHeartbeats 1000000 in
theorem walk (x : Int) (bx : 0 ≤ x ∧ x ≤ 18446744073709551615) (n : Int) (bn : -9223372036854775808 ≤ n ∧ n ≤ 9223372036854775807) (w : World) :
    Calls Try.prog 5 #[.int .u64 x, .int .i64 n] w fun e w' => e = .returned (.bool true) ∧ Below w.heap.size w w' := by
  go_enter Try.func5, Try.ntmps5
  go_wp2_with fail
  refine (oput_nil x n bx w).mono ?_
  rintro e w1 ⟨⟨u, rfl⟩, hk1⟩
  go_wp2_with fail
  have hX : Below w1.heap.size w1 (w1.alloc (Obj.cells #[Value.int IntKind.u8 1] 5)) := more (Below.refl _ _) _
  have hr2 : Row (intE .u8) 5 w1.heap.size (w1.alloc (Obj.cells #[Value.int IntKind.u8 1] 5)) (.slice (some ⟨w1.heap.size, 0, none⟩) 1 1) [1] :=
    Row.lit _ _ _ _ _ _ rfl rfl rfl (Nat.le_refl _) (by simp [maxLen])
  refine (otext_nil [1] _ _ hr2.rd (by simp)).mono ?_
  rintro e w2 ⟨⟨u, rfl⟩, hk2⟩
  have hk3 := nest hk1 (nest hX hk2)
  clear hk1 hX hr2 hk2
  go_wp2_with fail
  refine (oawake_any w2).mono ?_
  rintro e w3 ⟨rfl, hk4⟩
  have hk5 := nest hk3 hk4
  clear hk3 hk4
  go_wp2_with fail
  refine (obytes_nil w3).mono ?_
  rintro e w4 ⟨v4, rfl, hr4, hk6⟩
  obtain ⟨a4, c4, rfl, _, _⟩ := hr4.rd.form
  have hk7 := nest hk5 hk6
  clear hk5 hk6 hr4
  go_wp2_with fail
  refine (oget_nil n w4).mono ?_
  rintro e w5 ⟨rfl, hk8⟩
  have hk9 := nest hk7 hk8
  clear hk7 hk8
  go_wp2_with fail
  refine (otx_nil w5).mono ?_
  rintro e w6 ⟨v6, rfl, hr6, hk10⟩
  obtain ⟨a6, c6, rfl, _, _⟩ := hr6.rd.form
  have hk11 := nest hk9 hk10
  clear hk9 hk10 hr6
  go_wp2_with fail
  refine (oerr_nil w6).mono ?_
  rintro e w7 ⟨rfl, hk12⟩
  have hk13 := nest hk11 hk12
  clear hk11 hk12
  go_wp2_with fail
  refine (oleft_nil w7).mono ?_
  rintro e w8 ⟨rfl, hk14⟩
  have hk15 := nest hk13 hk14
  clear hk13 hk14
  go_wp2_with fail
  go_ret
  exact ⟨rfl, hk15⟩
end Go.Proofs.Ytejmidfkedalgaa.octetNil
