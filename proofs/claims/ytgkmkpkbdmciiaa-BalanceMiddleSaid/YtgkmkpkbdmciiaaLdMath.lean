/- Plain arithmetic of loads: the mean, who is heavy, who is light, who moves where. -/
namespace Go.Proofs.Ytgkmkpkbdmciiaa
set_option linter.unusedVariables false
set_option linter.unusedSimpArgs false
def posV (e : Int) : Int := max 0 (min e 2147483647)
def sumP (l : List (Int × Int)) : Int := (l.map fun x => posV x.2).sum
def meanV (l : List (Int × Int)) : Int := if l = [] then 0 else 256 * sumP l / l.length
theorem posV_bd (e : Int) : 0 ≤ posV e ∧ posV e ≤ 2147483647 := by unfold posV; omega
theorem sumP_nil : sumP [] = 0 := rfl
theorem sumP_cons (x : Int × Int) (l : List (Int × Int)) : sumP (x :: l) = posV x.2 + sumP l := by simp [sumP]
theorem sumP_append (l m : List (Int × Int)) : sumP (l ++ m) = sumP l + sumP m := by simp [sumP]
theorem sumP_bd : ∀ (l : List (Int × Int)), 0 ≤ sumP l ∧ sumP l ≤ 2147483647 * l.length
  | [] => by simp [sumP]
  | x :: l => by
    have := sumP_bd l
    have := posV_bd x.2
    rw [sumP_cons, List.length_cons]
    omega
theorem sumP_step {l : List (Int × Int)} {k : Nat} (h : k < l.length) : sumP (l.take (k + 1)) = sumP (l.take k) + posV (l.getD k (0, 0)).2 := by
  rw [List.take_add_one, List.getElem?_eq_getElem h, sumP_append, show l.getD k (0, 0) = l[k] by simp [List.getD, h]]
  simp [sumP]
theorem meanV_bd (l : List (Int × Int)) : 0 ≤ meanV l ∧ meanV l ≤ 549755813632 := by
  unfold meanV
  split
  · omega
  · rename_i h
    have hl : 0 < (l.length : Int) := by have := List.length_pos_iff.2 h; omega
    have := sumP_bd l
    refine ⟨Int.ediv_nonneg (by omega) (by omega), ?_⟩
    have : 256 * sumP l < 549755813633 * (l.length : Int) := by omega
    have := Int.ediv_lt_of_lt_mul hl this
    omega
theorem meanV_some {l : List (Int × Int)} (h : 0 < l.length) : meanV l = 256 * sumP l / l.length := by
  unfold meanV
  rw [if_neg (List.length_pos_iff.1 h)]
/-- loads that are alike -/
def alikeL (n : Int) (m : Nat) : List (Int × Int) := (List.range m).map fun (i : Nat) => ((i : Int), n)
theorem alike_len (n : Int) (m : Nat) : (alikeL n m).length = m := by simp [alikeL]
theorem alike_step (n : Int) (m : Nat) : alikeL n (m + 1) = alikeL n m ++ [((m : Int), n)] := by simp [alikeL, List.range_succ]
theorem alike_sum (n : Int) (hn : 0 ≤ n ∧ n ≤ 2147483647) : ∀ m : Nat, sumP (alikeL n m) = n * m
  | 0 => by simp [alikeL, sumP]
  | m + 1 => by
    rw [alike_step, sumP_append, alike_sum n hn m]
    have : sumP [((m : Int), n)] = n := by rw [sumP_cons, sumP_nil]; unfold posV; dsimp only; omega
    rw [this, show ((m + 1 : Nat) : Int) = (m : Int) + 1 by omega, Int.mul_add]
    omega
theorem alike_mean (n : Int) (hn : 0 ≤ n ∧ n ≤ 2147483647) {m : Nat} (hm : 0 < m) : meanV (alikeL n m) = 256 * n := by
  rw [meanV_some (by rw [alike_len]; exact hm), alike_sum n hn, alike_len, ← Int.mul_assoc, Int.mul_ediv_cancel _ (by omega)]
theorem means_neg (l : List (Int × Int)) (n : Int) (hn : 0 ≤ n) : meanV (l ++ [(0, -1 - n)]) = meanV (l ++ [(0, 0)]) := by
  rw [meanV_some (by simp), meanV_some (by simp), sumP_append, sumP_append]
  have e1 : sumP [(0, -1 - n)] = 0 := by rw [sumP_cons, sumP_nil]; unfold posV; dsimp only; omega
  have e2 : sumP [((0 : Int), (0 : Int))] = 0 := by rw [sumP_cons, sumP_nil]; unfold posV; dsimp only; omega
  rw [e1, e2]
  simp
theorem means_zero (l : List (Int × Int)) : meanV (l ++ [(0, 0)]) ≤ meanV l := by
  rw [meanV_some (l := l ++ [(0, 0)]) (by simp), sumP_append]
  have e2 : sumP [((0 : Int), (0 : Int))] = 0 := by rw [sumP_cons, sumP_nil]; unfold posV; dsimp only; omega
  rw [e2, Int.add_zero]
  by_cases h : 0 < l.length
  · rw [meanV_some h]
    have hs := sumP_bd l
    have hl : (0 : Int) < l.length := by omega
    have hl2 : (((l ++ [((0 : Int), (0 : Int))]).length : Nat) : Int) = (l.length : Int) + 1 := by simp
    rw [hl2]
    have hs0 : 0 ≤ 256 * sumP l := by omega
    clear hs
    generalize 256 * sumP l = s at *
    have p1 := Int.ediv_mul_le s (show (l.length : Int) + 1 ≠ 0 by omega)
    have p0 : 0 ≤ s / ((l.length : Int) + 1) := Int.ediv_nonneg (by omega) (by omega)
    rw [Int.mul_add, Int.mul_one] at p1
    exact (Int.le_ediv_iff_mul_le hl).2 (by omega)
  · have : l = [] := List.eq_nil_of_length_eq_zero (by omega)
    subst this
    simp [meanV, sumP]
theorem means_twice (l : List (Int × Int)) : meanV (l ++ l) = meanV l := by
  by_cases h : 0 < l.length
  · rw [meanV_some h, meanV_some (by simp; omega), sumP_append]
    have e1 : 256 * (sumP l + sumP l) = (256 * sumP l) * 2 := by omega
    have e2 : (((l ++ l).length : Nat) : Int) = (l.length : Int) * 2 := by simp; omega
    rw [e1, e2, Int.mul_ediv_mul_of_pos_left _ _ (by omega)]
  · have : l = [] := List.eq_nil_of_length_eq_zero (by omega)
    subst this
    rfl
/-- may loads be? -/
def mayB (l : List (Int × Int)) : Bool := (l.all fun x => decide (0 ≤ x.2) && decide (x.2 ≤ 2147483647)) && decide (l.map (·.1)).Nodup
theorem mayB_iff {l : List (Int × Int)} : mayB l = true ↔ (∀ i, i < l.length → 0 ≤ (l.getD i (0, 0)).2 ∧ (l.getD i (0, 0)).2 ≤ 2147483647) ∧ ∀ i k, i < l.length → k < i → (l.getD k (0, 0)).1 ≠ (l.getD i (0, 0)).1 := by
  unfold mayB
  rw [Bool.and_eq_true, List.all_eq_true, decide_eq_true_iff, List.Nodup, List.pairwise_map]
  have hg : ∀ i (hi : i < l.length), l.getD i (0, 0) = l[i] := fun i hi => by simp [List.getD, hi]
  constructor
  · rintro ⟨h1, h2⟩
    refine ⟨fun i hi => ?_, fun i k hi hk => ?_⟩
    · have := h1 l[i] (List.getElem_mem hi)
      simp only [Bool.and_eq_true, decide_eq_true_eq] at this
      rw [hg i hi]
      exact this
    · have := List.pairwise_iff_getElem.1 h2 k i (by omega) hi hk
      rw [hg i hi, hg k (by omega)]
      exact this
  · rintro ⟨h1, h2⟩
    refine ⟨fun x hx => ?_, List.pairwise_iff_getElem.2 (fun k i hk hi hki => ?_)⟩
    · obtain ⟨i, hi, rfl⟩ := List.getElem_of_mem hx
      have := h1 i hi
      rw [hg i hi] at this
      simp only [Bool.and_eq_true, decide_eq_true_eq]
      exact this
    · have := h2 i k hi hki
      rwa [hg i hi, hg k hk] at this
/-- has a more (or fewer) than b, or as many, and a lesser point? -/
def betterV (a b : Int × Int) (more : Bool) : Bool := if a.2 = b.2 then decide (a.1 < b.1) else decide (a.2 > b.2) == more
def bestL (l : List (Int × Int)) (more : Bool) : Nat → Int × Int
  | 0 => l.getD 0 (0, 0)
  | k + 1 => if betterV (l.getD (k + 1) (0, 0)) (bestL l more k) more then l.getD (k + 1) (0, 0) else bestL l more k
def mostV (l : List (Int × Int)) (more : Bool) : (Int × Int) × Bool := if mayB l = true ∧ l ≠ [] then (bestL l more (l.length - 1), true) else ((0, 0), false)
def heavyV (l : List (Int × Int)) : (Int × Int) × Bool := if (mostV l true).2 = false ∨ 256 * (mostV l true).1.2 ≤ 2 * meanV l then ((0, 0), false) else ((mostV l true).1, true)
def lightV (l : List (Int × Int)) : (Int × Int) × Bool := if (mostV l false).2 = false ∨ 512 * (mostV l false).1.2 ≥ meanV l then ((0, 0), false) else ((mostV l false).1, true)
/-- who moves where: of what the heavy one's shelf has, its values -/
def planV (l : List (Int × Int)) (vs : List Int) : (Int × Int) × Int :=
  if mayB l = false then ((0, 0), 1) else
    if (heavyV l).2 = false ∨ (lightV l).2 = false ∨ vs.length < 2 ∨ vs.getD (vs.length / 2) 0 = (heavyV l).1.1 then ((0, 0), 20) else (((lightV l).1.1, vs.getD (vs.length / 2) 0), 0)
theorem bestL_mem (l : List (Int × Int)) (more : Bool) : ∀ k, k < l.length → bestL l more k ∈ l
  | 0, h => by
    unfold bestL
    rw [show l.getD 0 (0, 0) = l[0] by simp [List.getD, h]]
    exact List.getElem_mem h
  | k + 1, h => by
    unfold bestL
    split
    · rw [show l.getD (k + 1) (0, 0) = l[k + 1] by simp [List.getD, h]]
      exact List.getElem_mem h
    · exact bestL_mem l more k (by omega)
theorem mostV_mem {l : List (Int × Int)} {more : Bool} (h : (mostV l more).2 = true) : (mostV l more).1 ∈ l ∧ 0 ≤ (mostV l more).1.2 ∧ (mostV l more).1.2 ≤ 2147483647 := by
  unfold mostV at h ⊢
  split at h
  · rename_i hc
    rw [if_pos hc]
    dsimp only
    have hm := bestL_mem l more (l.length - 1) (by have := List.length_pos_iff.2 hc.2; omega)
    refine ⟨hm, ?_⟩
    obtain ⟨i, hi, he⟩ := List.getElem_of_mem hm
    have := (mayB_iff.1 hc.1).1 i hi
    rw [show l.getD i (0, 0) = l[i] by simp [List.getD, hi], he] at this
    exact this
  · cases h
theorem heavy_is {l : List (Int × Int)} (h : (heavyV l).2 = true) : 2 * meanV l < 256 * (heavyV l).1.2 ∧ (heavyV l).1 ∈ l ∧ 0 ≤ (heavyV l).1.2 ∧ (heavyV l).1.2 ≤ 2147483647 := by
  unfold heavyV at h ⊢
  split at h
  · cases h
  · rename_i hc
    rw [if_neg hc]
    dsimp only
    have hm := mostV_mem (l := l) (more := true) (by cases hq : (mostV l true).2 with | true => rfl | false => exact absurd (.inl hq) hc)
    exact ⟨by have : ¬ 256 * (mostV l true).1.2 ≤ 2 * meanV l := fun e => hc (.inr e); omega, hm⟩
theorem light_is {l : List (Int × Int)} (h : (lightV l).2 = true) : 512 * (lightV l).1.2 < meanV l ∧ (lightV l).1 ∈ l ∧ 0 ≤ (lightV l).1.2 ∧ (lightV l).1.2 ≤ 2147483647 := by
  unfold lightV at h ⊢
  split at h
  · cases h
  · rename_i hc
    rw [if_neg hc]
    dsimp only
    have hm := mostV_mem (l := l) (more := false) (by cases hq : (mostV l false).2 with | true => rfl | false => exact absurd (.inl hq) hc)
    exact ⟨by have : ¬ 512 * (mostV l false).1.2 ≥ meanV l := fun e => hc (.inr e); omega, hm⟩
end Go.Proofs.Ytgkmkpkbdmciiaa
