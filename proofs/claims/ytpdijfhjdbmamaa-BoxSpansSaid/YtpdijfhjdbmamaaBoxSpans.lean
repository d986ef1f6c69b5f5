/- Walk of the law BoxSpans. -/
import Derived.Test.YtpdijfhjdbmamaaBoxAwake
import Derived.Test.YtpdijfhjdbmamaaRef
namespace Go.Proofs.Ytpdijfhjdbmamaa.boxSpans
open Go.RowKit Mem Cir
set_option linter.unusedSimpArgs false
set_option linter.unusedVariables false
attribute [local irreducible] Go.Calls

theorem span_bd (k a b : Int) (ba : 0 ≤ a ∧ a ≤ 4294967295) (bb : 0 ≤ b ∧ b ≤ 4294967295) : (0 ≤ (spanV (k, a, b)).1 ∧ (spanV (k, a, b)).1 ≤ 4294967295) ∧ (0 ≤ (spanV (k, a, b)).2.1 ∧ (spanV (k, a, b)).2.1 ≤ 4294967295) := by
  unfold spanV
  split
  · simp
  · split
    · simp; omega
    · simp
theorem span_in (k a b v : Int) (ba : 0 ≤ a ∧ a ≤ 4294967295) (bb : 0 ≤ b ∧ b ≤ 4294967295) (bv : 0 ≤ v ∧ v ≤ 4294967295) :
    inV (k, a, b) v = ((spanV (k, a, b)).2.2 && decide (beh (spanV (k, a, b)).1 v ≤ beh (spanV (k, a, b)).1 (spanV (k, a, b)).2.1)) := by
  unfold inV spanV
  by_cases h1 : k = 1
  · subst h1
    have : beh 4294967295 v ≤ beh 4294967295 4294967295 := by unfold beh; omega
    simp [this]
  · by_cases h2 : k = 2
    · subst h2
      have : ((v - a) % 4294967296 ≤ (b - a) % 4294967296) ↔ (beh ((a - 1) % 4294967296) v ≤ beh ((a - 1) % 4294967296) b) := by unfold beh; omega
      simp [this]
    · simp [h1, h2]
set_option maxHeartbeats 1000000 in
theorem walk (k a b : Int) (bk : -9223372036854775808 ≤ k ∧ k ≤ 9223372036854775807) (ba : 0 ≤ a ∧ a ≤ 4294967295) (bb : 0 ≤ b ∧ b ≤ 4294967295) (v : Int) (bv : 0 ≤ v ∧ v ≤ 4294967295) (w : World) :
    Calls Try.prog 4 #[.agg #[.int .i64 k, .int .u32 a, .int .u32 b], .int .u32 v] w fun e w' => e = .returned (.bool true) ∧ Below w.heap.size w w' := by
  have hB := Blk.new w 26 #[.int .i64 k, .int .u32 a, .int .u32 b]
  have hX := more (Below.refl w.heap.size w) (.cells #[.int .i64 k, .int .u32 a, .int .u32 b] 26)
  have hsb := span_bd k a b ba bb
  have HSI := Lib.hid (span_in k a b v ba bb bv)
  have HSN : Hid ((spanV (k, a, b)).2.2 = false → (spanV (k, a, b)).1 = 0 ∧ (spanV (k, a, b)).2.1 = 0) := Lib.hid (by unfold spanV; split <;> (try split) <;> simp)
  have HB := Lib.hid hB
  have HX := Lib.hid hX
  clear hB hX
  go_enter Try.func4, Try.ntmps4
  go_wp2_with fail
  refine (ospan_any k a b ba bb _).mono ?_
  rintro e w1 ⟨rfl, hk1⟩
  have HB1 := Lib.hid (HB.out.keep hk1)
  have HX1 := Lib.hid (nest HX.out hk1)
  clear hk1 HB HX
  generalize spanV (k, a, b) = s at *
  obtain ⟨f, t, is⟩ := s
  simp only [] at hsb ⊢
  have B2 := HB1.out.keep (more (Below.refl _ _) (.cells #[.int .u32 f, .int .u32 t] 31))
  have S2 := Blk.new w1 31 #[.int .u32 f, .int .u32 t]
  have X2 := nest HX1.out (more (Below.refl _ _) (.cells #[.int .u32 f, .int .u32 t] 31))
  have JB := Lib.hid B2
  have JS := Lib.hid S2
  have JX := Lib.hid X2
  clear B2 S2 X2 HB1 HX1
  have HBD := Lib.hid hsb
  clear hsb
  go_wp2_with fail
  generalize w1.alloc (.cells #[.int .u32 f, .int .u32 t] 31) = w2 at *
  generalize w1.heap.size = bs at *
  refine (bawake_any w2).mono ?_
  rintro e w3 ⟨rfl, hk3⟩
  have KB := Lib.hid (JB.out.keep hk3)
  have KS := Lib.hid (JS.out.keep hk3)
  have KX := Lib.hid (nest JX.out hk3)
  clear hk3 JB JS JX
  have c0 : w3.cell? ⟨w.heap.size, 0, none⟩ = some (.int .i64 k) := KB.out.cell 0
  have c1 : w3.cell? ⟨w.heap.size, 1, none⟩ = some (.int .u32 a) := KB.out.cell 1
  have c2 : w3.cell? ⟨w.heap.size, 2, none⟩ = some (.int .u32 b) := KB.out.cell 2
  go_wp2_with fail
  refine (oin_any k a b v ba bb bv w3).mono ?_
  rintro e w4 ⟨rfl, hk4⟩
  rw [HSI.out]
  have LS := Lib.hid (KS.out.keep hk4)
  have LX := Lib.hid (nest KX.out hk4)
  clear hk4 c0 c1 c2 KB KS KX
  have s0 : w4.cell? ⟨bs, 0, none⟩ = some (.int .u32 f) := LS.out.cell 0
  have s1 : w4.cell? ⟨bs, 1, none⟩ = some (.int .u32 t) := LS.out.cell 1
  cases is with
  | true =>
    rw [Bool.true_and]
    generalize hd : decide (beh f v ≤ beh f t) = d at *
    have HD := Lib.hid hd
    clear hd
    go_wp2_with fail
    refine (rhas_any f t v HBD.out.1 HBD.out.2 bv w4).mono ?_
    rintro e w5 ⟨rfl, hk5⟩
    rw [HD.out]
    have LX5 := Lib.hid (nest LX.out hk5)
    clear hk5 s0 s1
    go_wp2_with fail
    go_ret
    exact ⟨rfl, LX5.out⟩
  | false =>
    obtain ⟨rfl, rfl⟩ := HSN.out rfl
    rw [Bool.false_and]
    go_wp2_with fail
    go_ret
    exact ⟨rfl, LX.out⟩
end Go.Proofs.Ytpdijfhjdbmamaa.boxSpans
