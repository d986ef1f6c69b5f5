/- Lists of bytes in memory, read as texts: petasoshelp.Bytes; the bytes of a number, the highest first. -/
import Derived.Test.YtkenldpmogogaaaMem
import Derived.Laws.BytesArg
import Derived.Laws.IdiomStrings
set_option maxRecDepth 4000
namespace Go.Proofs.Ytkenldpmogogaaa
open Go.RowKit Mem
set_option linter.unusedSimpArgs false
set_option linter.unusedVariables false
attribute [local irreducible] Go.Calls

theorem byteElem : Elem Try.prog 35 5 1 1 := elem_of (z := .int .u8 0) Try.underlying35 (by kernel_rfl) rfl
theorem Mem.Rd.ints {k : IntKind} {w : World} {v : Value} {l : List Int} (h : Rd (intE k) w v l) (hl : 0 < l.length) :
    ∃ g off c, v = .slice (some ⟨g, off, none⟩) l.length c ∧ l.length ≤ c ∧ c ≤ maxLen ∧ ∀ i, i < l.length → w.cell? ⟨g, off + i, none⟩ = some (.int k (l.getD i 0)) := by
  obtain ⟨g, off, c, hv, h1, h2, hc⟩ := h.cells hl
  refine ⟨g, off, c, hv, h1, h2, fun i hi => ?_⟩
  have e : l.getD i 0 = l[i] := by simp [List.getD, hi]
  rw [e]
  have := hc i hi 0 (show 0 < 1 by omega)
  simpa [intE] using this
theorem Mem.Rd.loopI {k : IntKind} {w : World} {v : Value} {l : List Int} (h : Rd (intE k) w v l) :
    ∃ a g off c, v = .slice a l.length c ∧ l.length ≤ c ∧ c ≤ maxLen ∧ (0 < l.length → a = some ⟨g, off, none⟩ ∧ g < w.heap.size) ∧ ∀ i, i < l.length → w.cell? ⟨g, off + i, none⟩ = some (.int k (l.getD i 0)) := by
  by_cases hl : 0 < l.length
  · obtain ⟨g, off, c, hv, h1, h2, hc⟩ := Mem.Rd.ints h hl
    exact ⟨_, g, off, c, hv, h1, h2, fun _ => ⟨rfl, World.block_lt_of_cell? w _ (hc 0 hl)⟩, hc⟩
  · obtain ⟨a, c, hv, h1, h2⟩ := h.form
    exact ⟨a, 0, 0, c, hv, h1, h2, fun h => absurd h hl, fun i hi => absurd hi (by omega)⟩
/-- what string(v) is -/
theorem conv_rd {w : World} {v : Value} {l : List Int} (h : Rd (intE .u8) w v l) : (convert 35 9 v).run Try.prog w = .ok (.string (strOfNums l)) w := by
  by_cases hl : 0 < l.length
  · obtain ⟨g, off, c, rfl, _, _, hc⟩ := Mem.Rd.ints h hl
    exact run_convert_bytes_arg w 35 5 Try.underlying35 Try.underlying5 g off l.length c l rfl hc 9 Try.underlying9
  · have hz : l = [] := List.eq_nil_of_length_eq_zero (by omega)
    subst hz
    obtain ⟨a, c, rfl, _, _⟩ := h.form
    rcases a with _ | a
    · exact run_convert_bytes_nil w 35 5 Try.underlying35 Try.underlying5 _ c 9 Try.underlying9
    · have := run_convert_bytes_back (P := Try.prog) w 35 9 5 a c [] Try.underlying35 Try.underlying5 Try.underlying9 (fun j hj => absurd hj (by simp))
      exact this
theorem bytes_any (v1 v2 : Value) (l1 l2 : List Int) (w : World) (h1 : Rd (intE .u8) w v1 l1) (h2 : Rd (intE .u8) w v2 l2) :
    Calls Try.prog 17 #[v1, v2] w fun e w' => e = .returned (.bool ((strOfNums l1).toList == (strOfNums l2).toList)) ∧ Below w.heap.size w w' := by
  have k1 := conv_rd h1
  have k2 := conv_rd h2
  go_enter Try.func17, Try.ntmps17
  go_wp2_with fail
  go_ret
  exact ⟨rfl, Below.refl _ _⟩
/-- two that read as one list -/
theorem bytes_yes (v1 v2 : Value) (l : List Int) (w : World) (h1 : Rd (intE .u8) w v1 l) (h2 : Rd (intE .u8) w v2 l) :
    Calls Try.prog 17 #[v1, v2] w fun e w' => e = .returned (.bool true) ∧ Below w.heap.size w w' :=
  (bytes_any v1 v2 l l w h1 h2).mono fun e w' h => ⟨by rw [h.1]; simp, h.2⟩
end Go.Proofs.Ytkenldpmogogaaa
