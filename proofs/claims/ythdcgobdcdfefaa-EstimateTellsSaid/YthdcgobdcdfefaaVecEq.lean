/- Arrays of numbers held against each other. -/
import Derived.Test.YthdcgobdcdfefaaVec
import Derived.ChangeKeysEq
import Derived.Laws.StructEq
set_option maxRecDepth 4000
namespace Go.Proofs.Ythdcgobdcdfefaa.Mem
open Go Go.RowKit
set_option linter.unusedVariables false
section
variable {P : Program}
theorem run_eqItems_vec {e : TypeId} {k : IntKind} (he : P.underlying e = some (.int k)) (hc : P.cellsOf e = 1) (d : Nat) (l m : List Int) (w : World) : ∀ (is : List Nat), (∀ i ∈ is, i < l.length ∧ i < m.length) →
    (Op.eqItems (d + 1) e (P.cellsOf e) (l.map (Value.int k)).toArray (m.map (Value.int k)).toArray is).run P w = .ok (is.all fun i => l.getD i 0 == m.getD i 0) w
  | [], _ => by simp [Op.eqItems]
  | i :: is, h => by
    have hi := h i List.mem_cons_self
    have hp : P.plainKey e = true := by simp [Program.plainKey, he]
    have h1 : (l.map (Value.int k)).toArray[i * P.cellsOf e]? = some (.int k (l.getD i 0)) := by rw [hc, Nat.mul_one]; simp [List.getD, hi.1]
    have h2 : (m.map (Value.int k)).toArray[i * P.cellsOf e]? = some (.int k (m.getD i 0)) := by rw [hc, Nat.mul_one]; simp [List.getD, hi.2]
    have ih := run_eqItems_vec he hc d l m w is (fun j hj => h j (List.mem_cons_of_mem _ hj))
    simp only [Op.eqItems, Sem.run_bind, run_part_plain w hp h1, run_part_plain w hp h2, Result.andThen_ok, run_equalIn_int w d e k k _ _ he, List.all_cons]
    cases hq : (l.getD i 0 == m.getD i 0)
    · simp
    · simpa using ih
theorem all_eq {l m : List Int} {n : Nat} (hl : l.length = n) (hm : m.length = n) : ((List.range n).all fun i => l.getD i 0 == m.getD i 0) = decide (l = m) := by
  rw [Bool.eq_iff_iff, List.all_eq_true, decide_eq_true_iff]
  constructor
  · intro h
    apply List.ext_getElem (by omega)
    intro i h1 h2
    have := h i (List.mem_range.2 (by omega))
    rw [beq_iff_eq] at this
    simpa [List.getD, h1, h2] using this
  · rintro rfl i _
    simp
theorem run_equalIn_vec {t e : TypeId} {n : Nat} {k : IntKind} (hu : P.underlying t = some (.array n e)) (he : P.underlying e = some (.int k)) (hi : (P.info? e).map (·.size) = some 1) (hc : P.cellsOf e = 1) (d : Nat) {l m : List Int} (hl : l.length = n) (hm : m.length = n) (w : World) :
    (Op.equalIn (d + 2) t (.agg (l.map (Value.int k)).toArray) (.agg (m.map (Value.int k)).toArray)).run P w = .ok (decide (l = m)) w := by
  cases hie : P.info? e with
  | none => simp [hie] at hi
  | some i =>
    rw [run_equalIn_array w (d + 1) _ _ hu hie, run_eqItems_vec he hc d l m w (List.range n) (fun i hi => by have := List.mem_range.1 hi; omega), all_eq hl hm]
theorem run_eql_vec {t e : TypeId} {n : Nat} {k : IntKind} (hu : P.underlying t = some (.array n e)) (he : P.underlying e = some (.int k)) (hi : (P.info? e).map (·.size) = some 1) (hc : P.cellsOf e = 1) {l m : List Int} (hl : l.length = n) (hm : m.length = n) (w : World) :
    (binOp .eql t (.agg (l.map (Value.int k)).toArray) (.agg (m.map (Value.int k)).toArray)).run P w = .ok (.bool (decide (l = m))) w := by
  rw [run_eql_struct, run_equalIn_vec hu he hi hc 9998 hl hm w]
  rfl
theorem run_neq_vec {t e : TypeId} {n : Nat} {k : IntKind} (hu : P.underlying t = some (.array n e)) (he : P.underlying e = some (.int k)) (hi : (P.info? e).map (·.size) = some 1) (hc : P.cellsOf e = 1) {l m : List Int} (hl : l.length = n) (hm : m.length = n) (w : World) :
    (binOp .neq t (.agg (l.map (Value.int k)).toArray) (.agg (m.map (Value.int k)).toArray)).run P w = .ok (.bool (!decide (l = m))) w := by
  rw [run_neq_struct, run_equalIn_vec hu he hi hc 9998 hl hm w]
  rfl
end
end Go.Proofs.Ythdcgobdcdfefaa.Mem
