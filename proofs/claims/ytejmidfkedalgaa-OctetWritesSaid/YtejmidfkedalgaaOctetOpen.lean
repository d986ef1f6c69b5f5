/- Arguments of the laws of package octet: items. -/
import Derived.Test.YtejmidfkedalgaaKinds
namespace Go.Proofs.Ytejmidfkedalgaa
open Go.RowKit Mem

def itemK : Kd (Bool × Int × Int × List Int) := kPair kBool (kPair (kInt .u64) (kPair (kInt .i64) (kSlice (kInt .u8))))
section
variable {H : Type} {enc : TypeId × Value → H}
theorem opens_bytes : Opens enc Try.prog 27 (kSlice (kInt .u8)) := opens_slice Try.underlying27 (by kernel_rfl) Nat.zero_lt_one (opens_int Try.underlying5 (by kernel_rfl))
theorem opens_item : Opens enc Try.prog 30 itemK :=
  opens_struct Try.underlying30 (by kernel_rfl) (fields_cons rfl (opens_bool Try.underlying4 (by kernel_rfl)) (fields_cons rfl (opens_int Try.underlying28 (by kernel_rfl))
    (fields_cons rfl (opens_int Try.underlying3 (by kernel_rfl)) (fields_one rfl opens_bytes))))
theorem opens_items : Opens enc Try.prog 22 (kSlice itemK) := opens_slice Try.underlying22 (by kernel_rfl) (by decide) opens_item
end
/-- an item, cell by cell -/
theorem item_cells {w : World} {es : List Value} {y : Bool × Int × Int × List Int} (h : itemK.rd w es y) :
    ∃ v, es = [.bool y.1, .int .u64 y.2.1, .int .i64 y.2.2.1, v] ∧ (Lit.int .u64 y.2.1).wf = true ∧ (Lit.int .i64 y.2.2.1).wf = true ∧ Rd (intE .u8) w v y.2.2.2 ∧ ∀ x ∈ y.2.2.2, (Lit.int .u8 x).wf = true := by
  have hl := itemK.len h
  obtain ⟨h1, ⟨h2, w2⟩, ⟨h3, w3⟩, h4⟩ := h
  match es, hl with
  | [c0, c1, c2, c3], _ =>
    have e0 : c0 = .bool y.1 := by simpa [kBool] using h1
    have e1 : c1 = .int .u64 y.2.1 := by simpa [kBool, kInt] using h2
    have e2 : c2 = .int .i64 y.2.2.1 := by simpa [kBool, kInt] using h3
    have e3 : (kSlice (kInt .u8)).rd w [c3] y.2.2.2 := by simpa [kBool, kInt] using h4
    subst e0 e1 e2
    exact ⟨c3, rfl, w2, w3, kd_ints e3⟩
end Go.Proofs.Ytejmidfkedalgaa
