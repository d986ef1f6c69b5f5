/- Walk of the law RingHeirs. -/
import Derived.Test.YtgkfioloceemcaaRgLaw
import Derived.Test.YtgkfioloceemcaaRgPlans
set_option maxRecDepth 4000
namespace Go.Proofs.Ytgkfioloceemcaa.ringHeirs
open Go.RowKit Mem
set_option linter.unusedSimpArgs false
set_option linter.unusedVariables false
attribute [local irreducible] Go.Calls

theorem u64_bd (x : Int) : 0 ≤ IntKind.u64.wrap x ∧ IntKind.u64.wrap x ≤ 18446744073709551615 := by
  have h : IntKind.u64.wrap x = x % 18446744073709551616 := rfl
  omega
theorem oth_mem {L : List Int} {p x : Int} : x ∈ othR L p ↔ x ∈ L ∧ x ≠ p := by
  unfold othR
  rw [List.mem_append, lowR_mem, upR_mem]
  constructor
  · rintro (h | h)
    · exact ⟨h.1, by omega⟩
    · exact ⟨h.1, by omega⟩
  · rintro ⟨h1, h2⟩
    rcases Int.lt_trichotomy x p with q | q | q
    · exact .inr ⟨h1, q⟩
    · exact absurd q h2
    · exact .inl ⟨h1, q⟩
theorem oth_len {L : List Int} (h : okR L) (p : Int) : (othR L p).length = L.length - (if L.contains p then 1 else 0) := by
  have e := congrArg List.length (split_R h.1 p)
  unfold othR
  cases hc : L.contains p with
  | true => rw [hc] at e; simp at e ⊢; omega
  | false => rw [hc] at e; simp at e ⊢; omega
/-- in the order in which one comes to them -/
theorem oth_sorted {L : List Int} (h : okR L) {p : Int} (bp : 0 ≤ p ∧ p ≤ 4294967295) : (othR L p).Pairwise fun x y => (x - p - 1) % 4294967296 < (y - p - 1) % 4294967296 := by
  unfold othR
  rw [List.pairwise_append]
  refine ⟨List.Pairwise.imp_of_mem (fun {x y} hx hy hlt => ?_) (h.1.sublist List.filter_sublist), List.Pairwise.imp_of_mem (fun {x y} hx hy hlt => ?_) (h.1.sublist List.filter_sublist), fun x hx y hy => ?_⟩
  · have h1 := upR_mem.1 hx
    have h2 := upR_mem.1 hy
    have b1 := h.2.1 x h1.1
    have b2 := h.2.1 y h2.1
    omega
  · have h1 := lowR_mem.1 hx
    have h2 := lowR_mem.1 hy
    have b1 := h.2.1 x h1.1
    have b2 := h.2.1 y h2.1
    omega
  · have h1 := upR_mem.1 hx
    have h2 := lowR_mem.1 hy
    have b1 := h.2.1 x h1.1
    have b2 := h.2.1 y h2.1
    omega
theorem oth_lt {L : List Int} (h : okR L) {p : Int} (bp : 0 ≤ p ∧ p ≤ 4294967295) {i j : Nat} (hj : j < (othR L p).length) (hij : i < j) : ((othR L p)[i] - p - 1) % 4294967296 < ((othR L p)[j] - p - 1) % 4294967296 :=
  List.pairwise_iff_getElem.1 (oth_sorted h bp) i j (by omega) hj hij
/-- the next one of each is the one behind it -/
theorem oth_next {L : List Int} (h : okR L) {p : Int} (bp : 0 ≤ p ∧ p ≤ 4294967295) {i : Nat} (hi : i < (othR L p).length) : nextR L (if i = 0 then p else (othR L p).getD (i - 1) 0) = ((othR L p)[i], true) := by
  have hm := (oth_mem.1 (List.getElem_mem hi))
  have hL : L ≠ [] := fun e => by subst e; simp [othR, lowR, upR] at hi
  have bi := h.2.1 _ hm.1
  have key : ∀ q : Int, 0 ≤ q ∧ q ≤ 4294967295 → (∀ y ∈ L, ((othR L p)[i] - (q + 1) % 4294967296) % 4294967296 ≤ (y - (q + 1) % 4294967296) % 4294967296) → nextR L q = ((othR L p)[i], true) := by
    intro q bq hall
    have h1 := own_is h (v := (q + 1) % 4294967296) (by omega) hm.1 hall
    have h2 := (own_head ((q + 1) % 4294967296) hL).1
    unfold nextR
    exact Prod.ext h1 h2
  have place : ∀ y ∈ L, y = p ∨ ∃ j, ∃ hj : j < (othR L p).length, (othR L p)[j] = y := fun y hy => by
    by_cases e : y = p
    · exact .inl e
    · obtain ⟨j, hj, he⟩ := List.getElem_of_mem (oth_mem.2 ⟨hy, e⟩)
      exact .inr ⟨j, hj, he⟩
  by_cases h0 : i = 0
  · rw [if_pos h0]
    refine key p bp fun y hy => ?_
    have by' := h.2.1 y hy
    rcases place y hy with e | ⟨j, hj, he⟩
    · rw [e]; omega
    · by_cases hji : j = i
      · rw [← he]; simp only [hji]; exact Int.le_refl _
      · have := oth_lt h bp hj (show i < j by omega)
        rw [he] at this
        omega
  · rw [if_neg h0]
    have hi1 : i - 1 < (othR L p).length := by omega
    have hg : (othR L p).getD (i - 1) 0 = (othR L p)[i - 1] := by simp [List.getD, hi1]
    rw [hg]
    have hmq := oth_mem.1 (List.getElem_mem hi1)
    have bq := h.2.1 _ hmq.1
    have hqi := oth_lt h bp hi (show i - 1 < i by omega)
    refine key _ bq fun y hy => ?_
    have by' := h.2.1 y hy
    rcases place y hy with e | ⟨j, hj, he⟩
    · rw [e]
      omega
    · rcases Nat.lt_or_ge j i with hji | hji
      · have h5 : ((othR L p)[j] - p - 1) % 4294967296 ≤ ((othR L p)[i - 1] - p - 1) % 4294967296 := by
          by_cases e2 : j = i - 1
          · simp only [e2]; exact Int.le_refl _
          · exact Int.le_of_lt (oth_lt h bp hi1 (by omega))
        rw [he] at h5
        omega
      · have h5 : ((othR L p)[i] - p - 1) % 4294967296 ≤ ((othR L p)[j] - p - 1) % 4294967296 := by
          by_cases e2 : j = i
          · simp only [e2]; exact Int.le_refl _
          · exact Int.le_of_lt (oth_lt h bp hj (by omega))
        rw [he] at h5
        omega
def atR (T : List Int) (p : Int) (j : Nat) : Int := if j = 0 then p else T.getD (j - 1) 0
theorem oth_nodup {L : List Int} (h : okR L) {p : Int} (bp : 0 ≤ p ∧ p ≤ 4294967295) : (othR L p).Nodup := (oth_sorted h bp).imp fun hlt e => by rw [e] at hlt; omega

end Go.Proofs.Ytgkfioloceemcaa.ringHeirs
