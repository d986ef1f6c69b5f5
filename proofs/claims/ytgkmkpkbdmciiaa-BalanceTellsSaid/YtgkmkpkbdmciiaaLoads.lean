/- Slices of structs of two numbers of unlike kinds (api.Load). -/
import Derived.Test.YtgkmkpkbdmciiaaVec
set_option maxRecDepth 4000
namespace Go.Proofs.Ytgkmkpkbdmciiaa.Mem
open Go Go.ChangeShapes Go.WideShapes Go.ChangeAt Go.RowKit Go.Joins Go.Deep
set_option linter.unusedVariables false
def pr2E (k1 k2 : IntKind) : Enc (Int × Int) where
  cells p := [.int k1 p.1, .int k2 p.2]
  size := 2
  len _ := rfl
  one p u hu := by simp at hu; rcases hu with rfl | rfl <;> rfl
/-- what is read, for a loop -/
theorem Rd.loop2 {k1 k2 : IntKind} {w : World} {v : Value} {l : List (Int × Int)} (h : Rd (pr2E k1 k2) w v l) :
    ∃ a g off c, v = .slice a l.length c ∧ l.length ≤ c ∧ c ≤ maxLen ∧ (0 < l.length → a = some ⟨g, off, none⟩ ∧ g < w.heap.size) ∧
      ∀ i, i < l.length → w.cell? ⟨g, off + i * 2, none⟩ = some (.int k1 (l.getD i (0, 0)).1) ∧ w.cell? ⟨g, off + i * 2 + 1, none⟩ = some (.int k2 (l.getD i (0, 0)).2) := by
  by_cases hl : 0 < l.length
  · obtain ⟨g, off, c, hv, h1, h2, hc⟩ := h.cells hl
    have hcell : ∀ i, i < l.length → w.cell? ⟨g, off + i * 2, none⟩ = some (.int k1 (l.getD i (0, 0)).1) ∧ w.cell? ⟨g, off + i * 2 + 1, none⟩ = some (.int k2 (l.getD i (0, 0)).2) := by
      intro i hi
      have e : l.getD i (0, 0) = l[i] := by simp [List.getD, hi]
      rw [e]
      exact ⟨hc i hi 0 (show 0 < 2 by omega), hc i hi 1 (show 1 < 2 by omega)⟩
    exact ⟨_, g, off, c, hv, h1, h2, fun _ => ⟨rfl, World.block_lt_of_cell? w _ (hcell 0 hl).1⟩, hcell⟩
  · obtain ⟨a, c, hv, h1, h2⟩ := h.form
    exact ⟨a, 0, 0, c, hv, h1, h2, fun h => absurd h hl, fun i hi => absurd hi (by omega)⟩
/-- a slice of such, as an argument -/
theorem kd_pr2 {k1 k2 : IntKind} {w : World} {v : Value} {l : List (Int × Int)} (h : (kSlice (kPair (kInt k1) (kInt k2))).rd w [v] l) :
    Rd (pr2E k1 k2) w v l ∧ ∀ x ∈ l, (Lit.int k1 x.1).wf = true ∧ (Lit.int k2 x.2).wf = true := by
  obtain ⟨a, c, h1, h2, h3, h4⟩ := h
  injection h1 with h1
  subst h1
  have key : 0 < l.length → ∃ g off, a = some ⟨g, off, none⟩ ∧ ∀ i y, l[i]? = some y → (∀ j, j < 2 → w.cell? ⟨g, off + (i * 2 + j), none⟩ = ((pr2E k1 k2).cells y)[j]?) ∧ (Lit.int k1 y.1).wf = true ∧ (Lit.int k2 y.2).wf = true := by
    intro hl
    obtain ⟨g, off, ha, hi⟩ := h4 hl
    refine ⟨g, off, ha, fun i y hy => ?_⟩
    obtain ⟨es, he, hr⟩ := hi i y hy
    have hlen := (kPair (kInt k1) (kInt k2)).len hr
    obtain ⟨⟨r1, w1⟩, r2, w2⟩ := hr
    match es, hlen with
    | [c0, c1], _ =>
      have e0 : c0 = .int k1 y.1 := by simpa [kInt] using r1
      have e1 : c1 = .int k2 y.2 := by simpa [kInt] using r2
      subst e0 e1
      exact ⟨fun j hj => he j hj, w1, w2⟩
  refine ⟨⟨a, c, rfl, h2, h3, fun hl => ?_⟩, fun x hx => ?_⟩
  · obtain ⟨g, off, ha, hc⟩ := key hl
    refine ⟨g, off, ha, fun j u hu => ?_⟩
    have hsz : (pr2E k1 k2).size = 2 := rfl
    have hj : j < l.length * 2 := by
      have := (List.getElem?_eq_some_iff.1 hu).1
      rw [Enc.flat_len, hsz] at this
      exact this
    have hi : j / 2 < l.length := by omega
    have hf := (pr2E k1 k2).flat_at (l := l) (i := j / 2) (j := j % 2) hi (by rw [hsz]; omega)
    rw [hsz, show j / 2 * 2 + j % 2 = j by omega] at hf
    have := (hc (j / 2) _ (List.getElem?_eq_getElem hi)).1 (j % 2) (by omega)
    rw [show j / 2 * 2 + j % 2 = j by omega] at this
    rw [this, ← hf, hu]
  · obtain ⟨i, hi, rfl⟩ := List.getElem_of_mem hx
    obtain ⟨g, off, _, hc⟩ := key (by omega)
    exact (hc i _ (List.getElem?_eq_getElem hi)).2
end Go.Proofs.Ytgkmkpkbdmciiaa.Mem
namespace Go.Proofs.Ytgkmkpkbdmciiaa
open Go.RowKit Mem
/-- a load: its point, its entries -/
abbrev Ld := Int × Int
abbrev ldE : Enc Ld := pr2E .u32 .i64
/-- its bounds -/
def okLd (x : Ld) : Prop := (0 ≤ x.1 ∧ x.1 ≤ 4294967295) ∧ -9223372036854775808 ≤ x.2 ∧ x.2 ≤ 9223372036854775807
theorem ldElem : Elem Try.prog 22 29 2 16 := elem_of (z := .agg #[.int .u32 0, .int .i64 0]) Try.underlying22 (by kernel_rfl) rfl
theorem ld_info : (Try.prog.info? 29).map (·.size) = some 2 := by kernel_rfl
theorem opens_load {H : Type} {enc : TypeId × Value → H} : Opens enc Try.prog 29 (kPair (kInt .u32) (kInt .i64)) :=
  opens_struct Try.underlying29 (by kernel_rfl) (fields_cons rfl (opens_int Try.underlying27 (by kernel_rfl)) (fields_one rfl (opens_int Try.underlying3 (by kernel_rfl))))
theorem opens_loads {H : Type} {enc : TypeId × Value → H} : Opens enc Try.prog 22 (kSlice (kPair (kInt .u32) (kInt .i64))) := opens_slice Try.underlying22 (by kernel_rfl) (by decide) opens_load
theorem loads_of_kd {w : World} {v : Value} {l : List Ld} (h : (kSlice (kPair (kInt .u32) (kInt .i64))).rd w [v] l) : Rd ldE w v l ∧ ∀ x ∈ l, okLd x := by
  obtain ⟨h1, h2⟩ := kd_pr2 h
  exact ⟨h1, fun x hx => ⟨bd32 (h2 x hx).1, bd64 (h2 x hx).2⟩⟩
end Go.Proofs.Ytgkmkpkbdmciiaa
