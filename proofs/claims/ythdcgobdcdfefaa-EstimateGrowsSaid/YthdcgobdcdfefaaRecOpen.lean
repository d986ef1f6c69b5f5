/- Arguments of the laws of package record: records, entries. -/
import Derived.Test.YthdcgobdcdfefaaMem
set_option maxRecDepth 4000
namespace Go.Proofs.Ythdcgobdcdfefaa
open Go.RowKit Mem

def recordK : Kd (Int × Int × List Int) := kPair (kInt .u64) (kPair (kInt .u64) (kSlice (kInt .u32)))
def entryK : Kd (Int × (Int × Int × List Int) × Bool) := kPair (kInt .u32) (kPair recordK kBool)
section
variable {H : Type} {enc : TypeId × Value → H}
end
/-- a record, cell by cell -/
theorem record_cells {w : World} {es : List Value} {y : Int × Int × List Int} (h : recordK.rd w es y) :
    ∃ v, es = [.int .u64 y.1, .int .u64 y.2.1, v] ∧ (Lit.int .u64 y.1).wf = true ∧ (Lit.int .u64 y.2.1).wf = true ∧ Rd (intE .u32) w v y.2.2 ∧ ∀ x ∈ y.2.2, (Lit.int .u32 x).wf = true := by
  have hl := recordK.len h
  obtain ⟨⟨h1, w1⟩, ⟨h2, w2⟩, h3⟩ := h
  match es, hl with
  | [c0, c1, c2], _ =>
    have e0 : c0 = .int .u64 y.1 := by simpa [kInt] using h1
    have e1 : c1 = .int .u64 y.2.1 := by simpa [kInt] using h2
    have e2 : (kSlice (kInt .u32)).rd w [c2] y.2.2 := by simpa [kInt] using h3
    subst e0 e1
    exact ⟨c2, rfl, w1, w2, kd_ints e2⟩
/-- an entry, cell by cell -/
theorem entry_cells {w : World} {es : List Value} {y : Int × (Int × Int × List Int) × Bool} (h : entryK.rd w es y) :
    ∃ v, es = [.int .u32 y.1, .int .u64 y.2.1.1, .int .u64 y.2.1.2.1, v, .bool y.2.2] ∧ (Lit.int .u32 y.1).wf = true ∧ (Lit.int .u64 y.2.1.1).wf = true ∧ (Lit.int .u64 y.2.1.2.1).wf = true ∧ Rd (intE .u32) w v y.2.1.2.2 ∧ ∀ x ∈ y.2.1.2.2, (Lit.int .u32 x).wf = true := by
  have hl := entryK.len h
  obtain ⟨⟨h1, w1⟩, h2, h3⟩ := h
  match es, hl with
  | [c0, c1, c2, c3, c4], _ =>
    have e0 : c0 = .int .u32 y.1 := by simpa [kInt] using h1
    have e2 : recordK.rd w [c1, c2, c3] y.2.1 := by simpa [kInt, recordK, kPair, kSlice] using h2
    have e4 : c4 = .bool y.2.2 := by simpa [kInt, recordK, kPair, kSlice, kBool] using h3
    obtain ⟨v, hv, w2, w3, hr, hb⟩ := record_cells e2
    simp only [List.cons.injEq, and_true] at hv
    obtain ⟨rfl, rfl, rfl⟩ := hv
    subst e0 e4
    exact ⟨_, rfl, w1, w2, w3, hr, hb⟩
end Go.Proofs.Ythdcgobdcdfefaa
