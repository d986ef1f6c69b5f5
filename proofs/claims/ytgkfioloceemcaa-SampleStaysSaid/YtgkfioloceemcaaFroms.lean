/- Lists of links, one for each point, as an argument. -/
import Derived.Test.YtgkfioloceemcaaGrMap
set_option maxRecDepth 4000
namespace Go.Proofs.Ytgkfioloceemcaa
open Go.RowKit Mem
set_option linter.unusedVariables false
abbrev fromsK : Kd (List (List Int)) := kSlice (kSlice (kInt .u32))
theorem opens_froms {H : Type} {enc : TypeId × Value → H} : Opens enc Try.prog 23 fromsK :=
  opens_slice Try.underlying23 (by kernel_rfl) Nat.zero_lt_one (opens_slice Try.underlying22 (by kernel_rfl) Nat.zero_lt_one (opens_int Try.underlying24 (by kernel_rfl)))
theorem froms_at {w : World} {v : Value} {F : List (List Int)} (h : fromsK.rd w [v] F) : ∃ a c, v = .slice a F.length c ∧ F.length ≤ c ∧ c ≤ maxLen ∧ (0 < F.length → ∃ g off, a = some ⟨g, off, none⟩ ∧
    ∀ i, i < F.length → ∃ u, w.cell? ⟨g, off + i, none⟩ = some u ∧ Rd (intE .u32) w u (F.getD i []) ∧ ∀ x ∈ F.getD i [], 0 ≤ x ∧ x ≤ 4294967295) := by
  obtain ⟨a, c, e, h1, h2, h3⟩ := h
  injection e with e _
  refine ⟨a, c, e, h1, h2, fun hl => ?_⟩
  obtain ⟨g, off, ha, hi⟩ := h3 hl
  refine ⟨g, off, ha, fun i hlt => ?_⟩
  obtain ⟨es, hc, hr⟩ := hi i F[i] (List.getElem?_eq_getElem hlt)
  have hr2 := hr
  obtain ⟨b, d, rfl, _⟩ := hr2
  have h0 := hc 0 Nat.zero_lt_one
  rw [show off + (i * (kSlice (kInt .u32)).size + 0) = off + i by simp [kSlice]] at h0
  obtain ⟨q1, q2⟩ := kd_ints hr
  rw [show F.getD i [] = F[i] by simp [List.getD, hlt]]
  exact ⟨_, h0, q1, fun x hx => by have := q2 x hx; simp [Lit.wf, IntKind.min, IntKind.max, IntKind.signed, IntKind.bits] at this; omega⟩
theorem kOf_new {L : List Int} (h : L.Pairwise (· < ·)) (F : List (List Int)) {i : Nat} (hi : i < L.length) : kOf L F (i + 1) (L.getD i 0) = F.getD i [] ∧ ∀ q, q ≠ L.getD i 0 → kOf L F (i + 1) q = kOf L F i q := by
  constructor
  · show (if L.getD i 0 = L.getD i 0 then _ else _) = _
    rw [if_pos rfl]
  · intro q hq
    show (if q = L.getD i 0 then _ else _) = _
    rw [if_neg hq]
theorem kOf_len {L : List Int} {F : List (List Int)} {i : Nat} {n : Nat} (h : ∀ o, (kOf L F i o).length ≤ n) (hn : (F.getD i []).length ≤ n) : ∀ o, (kOf L F (i + 1) o).length ≤ n := fun o => by
  show (if o = L.getD i 0 then F.getD i [] else kOf L F i o).length ≤ n
  split
  · exact hn
  · exact h o
end Go.Proofs.Ytgkfioloceemcaa
