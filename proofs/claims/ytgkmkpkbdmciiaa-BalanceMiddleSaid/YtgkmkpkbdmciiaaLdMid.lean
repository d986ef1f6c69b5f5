/- One node with all entries, and others with none: who is heavy, who is light, who moves; loads that are alike. -/
import Derived.Test.YtgkmkpkbdmciiaaLdMath
set_option maxRecDepth 4000
namespace Go.Proofs.Ytgkmkpkbdmciiaa
set_option linter.unusedVariables false
set_option linter.unusedSimpArgs false
/-- one node with n entries, and k of m others, with none -/
def midL (n : Int) (m k : Nat) : List (Int × Int) := (2147483648, n) :: (List.range k).map fun (i : Nat) => ((m : Int) - (i : Int), (0 : Int))
theorem mid_len (n : Int) (m k : Nat) : (midL n m k).length = k + 1 := by simp [midL]
theorem mid_zero (n : Int) (m k : Nat) : (midL n m k).getD 0 (0, 0) = (2147483648, n) := rfl
theorem mid_at (n : Int) (m k : Nat) {i : Nat} (h : i < k) : (midL n m k).getD (i + 1) (0, 0) = ((m : Int) - i, 0) := by
  unfold midL
  rw [List.getD_cons_succ, List.getD_eq_getElem?_getD, List.getElem?_map, List.getElem?_range h]
  rfl
theorem mid_step (n : Int) (m k : Nat) : midL n m (k + 1) = midL n m k ++ [((m : Int) - k, 0)] := by simp [midL, List.range_succ]
theorem mid_sum (n : Int) (hn : 0 ≤ n ∧ n ≤ 2147483647) (m : Nat) : ∀ k : Nat, sumP (midL n m k) = n
  | 0 => by
    unfold midL
    rw [sumP_cons]
    simp [sumP, posV]
    omega
  | k + 1 => by
    rw [mid_step, sumP_append, mid_sum n hn m k, sumP_cons, sumP_nil]
    unfold posV
    omega
theorem mid_mean (n : Int) (hn : 0 ≤ n ∧ n ≤ 2147483647) (m : Nat) : meanV (midL n m m) = 256 * n / ((m : Int) + 1) := by
  rw [meanV_some (by rw [mid_len]; omega), mid_sum n hn, mid_len]
  rfl
theorem mid_may (n : Int) (hn : 0 ≤ n ∧ n ≤ 2147483647) (m : Nat) (hm : m ≤ 2147483647) : mayB (midL n m m) = true := by
  rw [mayB_iff]
  refine ⟨fun i hi => ?_, fun i k hi hk => ?_⟩
  · rw [mid_len] at hi
    match i with
    | 0 => exact hn
    | i + 1 => rw [mid_at n m m (by omega)]; simp
  · rw [mid_len] at hi
    match i, k with
    | i + 1, 0 => rw [mid_at n m m (by omega), mid_zero]; dsimp only; omega
    | i + 1, k + 1 => rw [mid_at n m m (by omega), mid_at n m m (by omega)]; dsimp only; omega
theorem mid_most (n : Int) (hn : 0 < n) (m : Nat) : ∀ k, k ≤ m → bestL (midL n m m) true k = (2147483648, n)
  | 0, _ => rfl
  | k + 1, h => by
    unfold bestL
    rw [mid_most n hn m k (by omega), mid_at n m m (by omega)]
    unfold betterV
    dsimp only
    rw [if_neg (by omega : ¬ (0 : Int) = n), decide_eq_false (by omega : ¬ (0 : Int) > n)]
    rfl
theorem mid_least (n : Int) (hn : 0 < n) (m : Nat) : ∀ k, k < m → bestL (midL n m m) false (k + 1) = ((m : Int) - k, 0)
  | 0, h => by
    unfold bestL bestL
    rw [mid_zero, mid_at n m m (by omega)]
    unfold betterV
    dsimp only
    rw [if_neg (by omega : ¬ (0 : Int) = n), decide_eq_false (by omega : ¬ (0 : Int) > n)]
    rfl
  | k + 1, h => by
    unfold bestL
    rw [mid_least n hn m k (by omega), mid_at n m m (by omega)]
    unfold betterV
    dsimp only
    rw [if_pos rfl, decide_eq_true (by omega), if_pos rfl]
theorem mid_div {n : Int} (hn : 0 < n) {m : Nat} (hm : 3 ≤ m) (hm2 : m ≤ 255) : 0 < 256 * n / ((m : Int) + 1) ∧ 2 * (256 * n / ((m : Int) + 1)) < 256 * n := by
  have hp : (0 : Int) < (m : Int) + 1 := by omega
  have h1 := Int.ediv_mul_le (256 * n) (show (m : Int) + 1 ≠ 0 by omega)
  have h0 : 1 ≤ 256 * n / ((m : Int) + 1) := (Int.le_ediv_iff_mul_le hp).2 (by omega)
  refine ⟨by omega, ?_⟩
  generalize 256 * n / ((m : Int) + 1) = q at *
  have : q * 4 ≤ q * ((m : Int) + 1) := Int.mul_le_mul_of_nonneg_left (by omega) (by omega)
  omega
theorem mid_heavy {n : Int} (hn : 0 < n ∧ n ≤ 2147483647) {m : Nat} (hm : 3 ≤ m ∧ m ≤ 255) : heavyV (midL n m m) = ((2147483648, n), true) := by
  unfold heavyV
  have e : mostV (midL n m m) true = ((2147483648, n), true) := by
    unfold mostV
    rw [if_pos ⟨mid_may n (by omega) m (by omega), by simp [midL]⟩, mid_len, mid_most n hn.1 m _ (by omega)]
  rw [e, mid_mean n (by omega)]
  have := mid_div hn.1 hm.1 hm.2
  rw [if_neg]
  rintro (h | h)
  · cases h
  · dsimp only at h; omega
theorem mid_light {n : Int} (hn : 0 < n ∧ n ≤ 2147483647) {m : Nat} (hm : 3 ≤ m ∧ m ≤ 255) : lightV (midL n m m) = ((1, 0), true) := by
  unfold lightV
  have e : mostV (midL n m m) false = ((1, 0), true) := by
    unfold mostV
    rw [if_pos ⟨mid_may n (by omega) m (by omega), by simp [midL]⟩, mid_len, show m + 1 - 1 = (m - 1) + 1 by omega, mid_least n hn.1 m _ (by omega)]
    rw [show (m : Int) - ((m - 1 : Nat) : Int) = 1 by omega]
  rw [e, mid_mean n (by omega)]
  have := mid_div hn.1 hm.1 hm.2
  rw [if_neg]
  rintro (h | h)
  · cases h
  · dsimp only at h; omega
theorem heavy_none {l : List (Int × Int)} (h : ∀ x ∈ l, 256 * x.2 ≤ 2 * meanV l) : heavyV l = ((0, 0), false) := by
  unfold heavyV
  rw [if_pos]
  cases hq : (mostV l true).2 with
  | false => exact .inl rfl
  | true => exact .inr (h _ (mostV_mem hq).1)
theorem light_none {l : List (Int × Int)} (h : ∀ x ∈ l, 512 * x.2 ≥ meanV l) : lightV l = ((0, 0), false) := by
  unfold lightV
  rw [if_pos]
  cases hq : (mostV l false).2 with
  | false => exact .inl rfl
  | true => exact .inr (h _ (mostV_mem hq).1)
/-- what the middle one's law says -/
theorem mid_plan (vs : List Int) (hl : vs.length ≤ 40) {m : Nat} (hm : 3 ≤ m ∧ m ≤ 255) :
    planV (midL vs.length m m) vs = if vs.length < 2 ∨ vs.getD (vs.length / 2) 0 = 2147483648 then ((0, 0), 20) else ((1, vs.getD (vs.length / 2) 0), 0) := by
  unfold planV
  rw [mid_may _ (by omega) m (by omega), if_neg (by decide)]
  by_cases h0 : 0 < vs.length
  · rw [mid_heavy (by omega) hm, mid_light (by omega) hm]
    dsimp only
    by_cases hc : vs.length < 2 ∨ vs.getD (vs.length / 2) 0 = 2147483648
    · rw [if_pos hc, if_pos (.inr (.inr hc))]
    · rw [if_neg hc, if_neg]
      rintro (h | h | h)
      · cases h
      · cases h
      · exact hc h
  · have hz : heavyV (midL vs.length m m) = ((0, 0), false) := by
      refine heavy_none (fun x hx => ?_)
      have hz : (vs.length : Int) = 0 := by omega
      rw [hz] at hx ⊢
      have hx2 : x.2 = 0 := by
        unfold midL at hx
        simp only [List.mem_cons, List.mem_map] at hx
        rcases hx with rfl | ⟨_, _, rfl⟩ <;> rfl
      have := (meanV_bd (midL 0 m m)).1
      omega
    rw [hz, if_pos (.inl rfl), if_pos (.inl (by omega))]
/-- loads that are alike move nobody -/
theorem alike_mem {n : Int} {m : Nat} {x : Int × Int} (h : x ∈ alikeL n m) : x.2 = n ∧ 0 ≤ x.1 ∧ x.1 < m := by
  unfold alikeL at h
  simp only [List.mem_map, List.mem_range] at h
  obtain ⟨i, hi, rfl⟩ := h
  dsimp only
  omega
theorem alike_may (n : Int) (hn : 0 ≤ n ∧ n ≤ 2147483647) (m : Nat) : mayB (alikeL n m) = true := by
  rw [mayB_iff]
  have hg : ∀ i, i < (alikeL n m).length → (alikeL n m).getD i (0, 0) = ((i : Int), n) := by
    intro i hi
    rw [alike_len] at hi
    unfold alikeL
    rw [List.getD_eq_getElem?_getD, List.getElem?_map, List.getElem?_range hi]
    rfl
  refine ⟨fun i hi => ?_, fun i k hi hk => ?_⟩
  · rw [hg i hi]; exact hn
  · rw [hg i hi, hg k (by omega)]; dsimp only; omega
theorem alike_none (n : Int) (hn : 0 ≤ n ∧ n ≤ 2147483647) (m : Nat) (vs : List Int) : heavyV (alikeL n m) = ((0, 0), false) ∧ lightV (alikeL n m) = ((0, 0), false) ∧ planV (alikeL n m) vs = ((0, 0), 20) := by
  have hh : heavyV (alikeL n m) = ((0, 0), false) := by
    refine heavy_none (fun x hx => ?_)
    have h1 := alike_mem hx
    rw [alike_mean n hn (by omega)]
    omega
  have hl : lightV (alikeL n m) = ((0, 0), false) := by
    refine light_none (fun x hx => ?_)
    have h1 := alike_mem hx
    rw [alike_mean n hn (by omega)]
    omega
  refine ⟨hh, hl, ?_⟩
  unfold planV
  rw [alike_may n hn m, if_neg (by decide), if_pos (.inl (by rw [hh]))]
theorem heavy_bd (l : List (Int × Int)) : 0 ≤ (heavyV l).1.2 ∧ (heavyV l).1.2 ≤ 2147483647 := by
  cases h : (heavyV l).2 with
  | true => exact (heavy_is h).2.2
  | false =>
    unfold heavyV at h ⊢
    split
    · simp
    · rename_i hc; rw [if_neg hc] at h; cases h
theorem light_bd (l : List (Int × Int)) : 0 ≤ (lightV l).1.2 ∧ (lightV l).1.2 ≤ 2147483647 := by
  cases h : (lightV l).2 with
  | true => exact (light_is h).2.2
  | false =>
    unfold lightV at h ⊢
    split
    · simp
    · rename_i hc; rw [if_neg hc] at h; cases h
end Go.Proofs.Ytgkmkpkbdmciiaa
