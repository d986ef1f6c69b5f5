/- The document's answers for package density (petasosref14): Sum, Count. -/
import Derived.Test.YthdcgobdcdfefaaDnRef2
import Derived.Test.YthdcgobdcdfefaaDnPlans
import Derived.Test.YthdcgobdcdfefaaVec
set_option maxRecDepth 4000
namespace Go.Proofs.Ythdcgobdcdfefaa
open Go.RowKit Mem Cir
set_option linter.unusedSimpArgs false
set_option linter.unusedVariables false
attribute [local irreducible] Go.Calls

/-- densities, one behind the other -/
abbrev Den := {l : List Int // l.length = 16}
abbrev denE : Enc Den := vecE 16 .u32
theorem den_cells (x : Den) : denE.cells x = dcs x.1 := rfl
def vals (L : List Den) : List (List Int) := L.map (·.1)
theorem sumD_step {L : List Den} {i : Nat} (h : i < L.length) : sumD (vals (L.take (i + 1))) = sumD2 (sumD (vals (L.take i))) (L[i]).1 := by
  unfold sumD vals
  rw [List.take_add_one, List.getElem?_eq_getElem h, List.map_append, List.foldl_append]
  simp only [Option.toList_some, List.map_cons, List.map_nil, List.foldl_cons, List.foldl_nil]
/-- a slice of densities: where a number of one lies -/
theorem den_at {w : World} {v : Value} {L : List Den} (h : Rd denE w v L) :
    ∃ a g off c, v = .slice a L.length c ∧ L.length ≤ c ∧ c ≤ maxLen ∧ (0 < L.length → a = some ⟨g, off, none⟩) ∧ ∀ (i : Nat) (hi : i < L.length) (k : Nat), k < 16 → w.cell? ⟨g, off + i * 16 + k, none⟩ = some (.int .u32 ((L[i]).1.getD k 0)) := by
  by_cases hl : 0 < L.length
  · obtain ⟨g, off, c, hv, h1, h2, hc⟩ := Rd.cells (E := vecE 16 .u32) h hl
    have key : ∀ (i : Nat) (hi : i < L.length) (k : Nat), k < 16 → w.cell? ⟨g, off + i * 16 + k, none⟩ = some (.int .u32 ((L[i]).1.getD k 0)) := by
      intro i hi k hk
      have h3 : w.cell? ⟨g, off + (i * 16 + k), none⟩ = (dcs (L[i]).1)[k]? := hc i hi k hk
      have h4 := dcs_at (L[i]).1 (k := k) (by rw [(L[i]).2]; exact hk)
      rw [List.getElem?_toArray] at h4
      rw [Nat.add_assoc, h3, h4]
    exact ⟨_, g, off, c, hv, h1, h2, fun _ => rfl, key⟩
  · obtain ⟨a, c, hv, h1, h2⟩ := h.form
    exact ⟨a, 0, 0, c, hv, h1, h2, fun h => absurd h hl, fun i hi => absurd hi (by omega)⟩
/-- one more is counted, unless it is gone -/
def cntS (d : List Int) (y : Ent) : List Int := if y.2.2 then d else addD d y.1 1
def countD (l : List Ent) : List Int := l.foldl cntS zeroD
theorem okD.cnt {d : List Int} (h : okD d) (y : Ent) : okD (cntS d y) := by
  unfold cntS
  split
  · exact h
  · exact h.add _ _
theorem okD.cntl : ∀ (l : List Ent) {d : List Int}, okD d → okD (l.foldl cntS d)
  | [], _, h => h
  | y :: l, _, h => okD.cntl l (h.cnt y)
theorem okD.count (l : List Ent) : okD (countD l) := okD.cntl l okD_zero
theorem count_step {l : List Ent} {i : Nat} (h : i < l.length) : countD (l.take (i + 1)) = cntS (countD (l.take i)) (l.getD i e0) := by
  unfold countD
  rw [List.take_add_one, List.getElem?_eq_getElem h, List.foldl_append]
  simp only [Option.toList_some, List.foldl_cons, List.foldl_nil, List.getD, List.getElem?_eq_getElem h, Option.getD_some]
theorem den_i : (Try.prog.info? 24).map (·.size) = some 16 := by kernel_rfl
end Go.Proofs.Ythdcgobdcdfefaa
