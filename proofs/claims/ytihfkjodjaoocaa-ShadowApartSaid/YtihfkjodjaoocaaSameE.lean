/- petasoshelp.Entry on two entries. -/
import Derived.Test.YtihfkjodjaoocaaSameU
import Derived.Test.YtihfkjodjaoocaaMem
set_option maxRecDepth 4000
namespace Go.Proofs.Ytihfkjodjaoocaa
open Go.RowKit Mem
set_option linter.unusedSimpArgs false
set_option linter.unusedVariables false
attribute [local irreducible] Go.Calls

theorem rec_info : (Try.prog.info? 26).map (·.size) = some 3 := by kernel_rfl
/-- two entries alike -/
def sameE (x1 i1 v1 : Int) (l1 : List Int) (g1 : Bool) (x2 i2 v2 : Int) (l2 : List Int) (g2 : Bool) : Bool := (x1 == x2) && ((g1 == g2) && sameV i1 v1 l1 i2 v2 l2)
set_option maxHeartbeats 2000000 in
theorem entry_any (x1 i1 v1 x2 i2 v2 : Int) (s1 s2 : Value) (l1 l2 : List Int) (g1 g2 : Bool) (w : World) (h1 : Rd (intE .u32) w s1 l1) (h2 : Rd (intE .u32) w s2 l2) :
    Calls Try.prog 31 #[.agg #[.int .u32 x1, .int .u64 i1, .int .u64 v1, s1, .bool g1], .agg #[.int .u32 x2, .int .u64 i2, .int .u64 v2, s2, .bool g2]] w
      fun e w' => e = .returned (.bool (sameE x1 i1 v1 l1 g1 x2 i2 v2 l2 g2)) ∧ Below w.heap.size w w' := by
  obtain ⟨a1, c1, rfl, _⟩ := h1.form
  obtain ⟨a2, c2, rfl, _⟩ := h2.form
  have hx : Below w.heap.size w ((w.alloc (.cells #[.int .u32 x1, .int .u64 i1, .int .u64 v1, .slice a1 l1.length c1, .bool g1] 28)).alloc (.cells #[.int .u32 x2, .int .u64 i2, .int .u64 v2, .slice a2 l2.length c2, .bool g2] 28)) := more (more (Below.refl _ _) _) _
  have HC := Lib.hid (record_any i1 v1 i2 v2 _ _ l1 l2 _ (h1.keep hx) (h2.keep hx))
  have HX := Lib.hid hx
  clear h1 h2 hx
  unfold sameE
  generalize sameV i1 v1 l1 i2 v2 l2 = q at *
  by_cases e1 : x1 = x2
  · subst e1
    rw [beq_self_eq_true, Bool.true_and]
    have d1 : (x1 == x1) = true := by simp
    by_cases e2 : g1 = g2
    · subst e2
      rw [beq_self_eq_true, Bool.true_and]
      go_enter Try.func31, Try.ntmps31
      go_wp2_with (go_at_call 44; refine HC.out.mono ?_; rintro e w' ⟨rfl, hk⟩)
      go_ret
      exact ⟨rfl, nest HX.out hk⟩
    · have d2 : (g1 == g2) = false := by simpa using e2
      rw [d2, Bool.false_and]
      go_enter Try.func31, Try.ntmps31
      go_wp2_with fail
      go_ret
      exact ⟨rfl, HX.out⟩
  · have d1 : (x1 == x2) = false := by simpa using e1
    rw [d1, Bool.false_and]
    go_enter Try.func31, Try.ntmps31
    go_wp2_with fail
    go_ret
    exact ⟨rfl, HX.out⟩
end Go.Proofs.Ytihfkjodjaoocaa
