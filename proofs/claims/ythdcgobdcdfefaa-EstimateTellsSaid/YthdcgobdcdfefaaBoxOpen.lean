/- Arguments of the laws of package box: ranges. -/
import Derived.Test.YthdcgobdcdfefaaMem
set_option maxRecDepth 4000
namespace Go.Proofs.Ythdcgobdcdfefaa
open Go.RowKit Mem

def rangeK : Kd (Int × Int × Int) := kPair (kInt .i64) (kPair (kInt .u32) (kInt .u32))
section
variable {H : Type} {enc : TypeId × Value → H}
theorem opens_range : Opens enc Try.prog 26 rangeK :=
  opens_struct Try.underlying26 (by kernel_rfl) (fields_cons rfl (opens_int Try.underlying3 (by kernel_rfl)) (fields_cons rfl (opens_int Try.underlying22 (by kernel_rfl)) (fields_one rfl (opens_int Try.underlying22 (by kernel_rfl)))))
theorem opens_ranges : Opens enc Try.prog 28 (kSlice rangeK) := opens_slice Try.underlying28 (by kernel_rfl) (by decide) opens_range
end
theorem range_cells {w : World} {es : List Value} {k a b : Int} (h : rangeK.rd w es (k, a, b)) :
    es = [.int .i64 k, .int .u32 a, .int .u32 b] ∧ (Lit.int .i64 k).wf = true ∧ (Lit.int .u32 a).wf = true ∧ (Lit.int .u32 b).wf = true := by
  have hl := rangeK.len h
  obtain ⟨⟨h1, w1⟩, ⟨h2, w2⟩, h3, w3⟩ := h
  match es, hl with
  | [c0, c1, c2], _ =>
    have e0 : c0 = .int .i64 k := by simpa [kInt] using h1
    have e1 : c1 = .int .u32 a := by simpa [kInt] using h2
    have e2 : c2 = .int .u32 b := by simpa [kInt] using h3
    subst e0 e1 e2
    exact ⟨rfl, w1, w2, w3⟩
end Go.Proofs.Ythdcgobdcdfefaa
