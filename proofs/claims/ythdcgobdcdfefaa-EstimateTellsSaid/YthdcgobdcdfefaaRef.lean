/- Walks of the document's own answers for layer 1 (petasosref01): the small ones. -/
import Derived.Test.YthdcgobdcdfefaaSpan
import Derived.Test.YthdcgobdcdfefaaRefPlans
set_option maxRecDepth 4000
namespace Go.Proofs.Ythdcgobdcdfefaa
open Go.RowKit Cir
set_option linter.unusedSimpArgs false
set_option linter.unusedVariables false

theorem rsize_same (f : Int) (w : World) :
    Calls Try.prog 24 #[.agg #[.int .u32 f, .int .u32 f]] w fun e w' => e = .returned (.int .u64 (beh f f)) ∧ Below w.heap.size w w' := by
  go_enter Try.func24, Try.ntmps24
  go_wp2
  go_ret
  exact ⟨by rw [beh_self]; rfl, more (Below.refl _ _) _⟩
theorem rsize_other (f t : Int) (h : far f t ≠ 0) (hne : ¬ f = t) (w : World) :
    Calls Try.prog 24 #[.agg #[.int .u32 f, .int .u32 t]] w fun e w' => e = .returned (.int .u64 (beh f t)) ∧ Below w.heap.size w w' := by
  have e0 : (f == t) = false := by simpa using hne
  have e1 := beh_far f t h
  have b := far_bd f t
  have e2 : far f t = (t - f) % 4294967296 := by unfold far; rfl
  have H1 := e1
  have H2 := e2
  clear e1 e2
  revert H1 H2
  intro H1 H2
  have G1 : (4294967296 : Int) = 4294967296 := rfl
  clear G1
  have K1 : beh f t = (t - f) % 4294967296 := H1.trans H2
  rw [K1]
  clear K1 H1 H2
  go_enter Try.func24, Try.ntmps24
  go_wp2
  go_ret
  exact ⟨rfl, more (Below.refl _ _) _⟩
theorem far_ne (f t : Int) (bf : 0 ≤ f ∧ f ≤ 4294967295) (bt : 0 ≤ t ∧ t ≤ 4294967295) (h : ¬ f = t) : far f t ≠ 0 := by unfold far; omega
theorem rsize_any (f t : Int) (bf : 0 ≤ f ∧ f ≤ 4294967295) (bt : 0 ≤ t ∧ t ≤ 4294967295) (w : World) :
    Calls Try.prog 24 #[.agg #[.int .u32 f, .int .u32 t]] w fun e w' => e = .returned (.int .u64 (beh f t)) ∧ Below w.heap.size w w' := by
  by_cases h : f = t
  · subst h; exact rsize_same f w
  · exact rsize_other f t (far_ne f t bf bt h) h w
end Go.Proofs.Ythdcgobdcdfefaa
