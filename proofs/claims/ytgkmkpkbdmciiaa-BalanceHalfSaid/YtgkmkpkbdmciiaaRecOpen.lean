/- Arguments of the laws of package record: records, entries. -/
import Derived.Test.YtgkmkpkbdmciiaaMem
set_option maxRecDepth 4000
namespace Go.Proofs.Ytgkmkpkbdmciiaa
open Go.RowKit Mem

def recordK : Kd (Int × Int × List Int) := kPair (kInt .u64) (kPair (kInt .u64) (kSlice (kInt .u32)))
def entryK : Kd (Int × (Int × Int × List Int) × Bool) := kPair (kInt .u32) (kPair recordK kBool)
section
variable {H : Type} {enc : TypeId × Value → H}
theorem opens_u32s : Opens enc Try.prog 43 (kSlice (kInt .u32)) := opens_slice Try.underlying43 (by kernel_rfl) Nat.zero_lt_one (opens_int Try.underlying27 (by kernel_rfl))
theorem opens_record : Opens enc Try.prog 45 recordK :=
  opens_struct Try.underlying45 (by kernel_rfl) (fields_cons rfl (opens_int Try.underlying39 (by kernel_rfl)) (fields_cons rfl (opens_int Try.underlying39 (by kernel_rfl)) (fields_one rfl opens_u32s)))
theorem opens_entry : Opens enc Try.prog 47 entryK :=
  opens_struct Try.underlying47 (by kernel_rfl) (fields_cons rfl (opens_int Try.underlying27 (by kernel_rfl)) (fields_cons rfl opens_record (fields_one rfl (opens_bool Try.underlying4 (by kernel_rfl)))))
end
/-- a record, cell by cell -/
theorem record_cells {w : World} {es : List Value} {y : Int × Int × List Int} (h : recordK.rd w es y) :
    ∃ v, es = [.int .u64 y.1, .int .u64 y.2.1, v] ∧ (Lit.int .u64 y.1).wf = true ∧ (Lit.int .u64 y.2.1).wf = true ∧ Rd (intE .u32) w v y.2.2 ∧ ∀ x ∈ y.2.2, (Lit.int .u32 x).wf = true := by
  have hl := recordK.len h
  obtain ⟨⟨h1, w1⟩, ⟨h2, w2⟩, h3⟩ := h
  match es, hl with
  | [c0, c1, c2], _ =>
    have e0 : c0 = .int .u64 y.1 := by simpa [kInt] using h1
    have e1 : c1 = .int .u64 y.2.1 := by simpa [kInt] using h2
    have e2 : (kSlice (kInt .u32)).rd w [c2] y.2.2 := by simpa [kInt] using h3
    subst e0 e1
    exact ⟨c2, rfl, w1, w2, kd_ints e2⟩
/-- an entry, cell by cell -/
theorem entry_cells {w : World} {es : List Value} {y : Int × (Int × Int × List Int) × Bool} (h : entryK.rd w es y) :
    ∃ v, es = [.int .u32 y.1, .int .u64 y.2.1.1, .int .u64 y.2.1.2.1, v, .bool y.2.2] ∧ (Lit.int .u32 y.1).wf = true ∧ (Lit.int .u64 y.2.1.1).wf = true ∧ (Lit.int .u64 y.2.1.2.1).wf = true ∧ Rd (intE .u32) w v y.2.1.2.2 ∧ ∀ x ∈ y.2.1.2.2, (Lit.int .u32 x).wf = true := by
  have hl := entryK.len h
  obtain ⟨⟨h1, w1⟩, h2, h3⟩ := h
  match es, hl with
  | [c0, c1, c2, c3, c4], _ =>
    have e0 : c0 = .int .u32 y.1 := by simpa [kInt] using h1
    have e2 : recordK.rd w [c1, c2, c3] y.2.1 := by simpa [kInt, recordK, kPair, kSlice] using h2
    have e4 : c4 = .bool y.2.2 := by simpa [kInt, recordK, kPair, kSlice, kBool] using h3
    obtain ⟨v, hv, w2, w3, hr, hb⟩ := record_cells e2
    simp only [List.cons.injEq, and_true] at hv
    obtain ⟨rfl, rfl, rfl⟩ := hv
    subst e0 e4
    exact ⟨_, rfl, w1, w2, w3, hr, hb⟩
end Go.Proofs.Ytgkmkpkbdmciiaa
