/- Lists of bytes in memory, read as texts: petasoshelp.Bytes; the bytes of a number, the highest first. -/
import Derived.Test.YtjjgckbjoficgaaMem
import Derived.Laws.BytesArg
import Derived.Laws.IdiomStrings
namespace Go.Proofs.Ytjjgckbjoficgaa
open Go.RowKit Mem
set_option linter.unusedSimpArgs false
set_option linter.unusedVariables false
attribute [local irreducible] Go.Calls

theorem Mem.Rd.ints {k : IntKind} {w : World} {v : Value} {l : List Int} (h : Rd (intE k) w v l) (hl : 0 < l.length) :
    ∃ g off c, v = .slice (some ⟨g, off, none⟩) l.length c ∧ l.length ≤ c ∧ c ≤ maxLen ∧ ∀ i, i < l.length → w.cell? ⟨g, off + i, none⟩ = some (.int k (l.getD i 0)) := by
  obtain ⟨g, off, c, hv, h1, h2, hc⟩ := h.cells hl
  refine ⟨g, off, c, hv, h1, h2, fun i hi => ?_⟩
  have e : l.getD i 0 = l[i] := by simp [List.getD, hi]
  rw [e]
  have := hc i hi 0 (show 0 < 1 by omega)
  simpa [intE] using this
theorem Mem.Rd.loopI {k : IntKind} {w : World} {v : Value} {l : List Int} (h : Rd (intE k) w v l) :
    ∃ a g off c, v = .slice a l.length c ∧ l.length ≤ c ∧ c ≤ maxLen ∧ (0 < l.length → a = some ⟨g, off, none⟩ ∧ g < w.heap.size) ∧ ∀ i, i < l.length → w.cell? ⟨g, off + i, none⟩ = some (.int k (l.getD i 0)) := by
  by_cases hl : 0 < l.length
  · obtain ⟨g, off, c, hv, h1, h2, hc⟩ := Mem.Rd.ints h hl
    exact ⟨_, g, off, c, hv, h1, h2, fun _ => ⟨rfl, World.block_lt_of_cell? w _ (hc 0 hl)⟩, hc⟩
  · obtain ⟨a, c, hv, h1, h2⟩ := h.form
    exact ⟨a, 0, 0, c, hv, h1, h2, fun h => absurd h hl, fun i hi => absurd hi (by omega)⟩
end Go.Proofs.Ytjjgckbjoficgaa
