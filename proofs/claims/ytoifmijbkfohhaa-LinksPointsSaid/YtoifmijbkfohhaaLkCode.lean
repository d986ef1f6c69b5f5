/- Links as the landed package makes them: all that are found, in the order of the looks, sorted, and each once: the same links as the document's. -/
import Derived.Test.YtoifmijbkfohhaaLkMath
import Derived.Lib.SlicesCompact
set_option maxRecDepth 4000
namespace Go.Proofs.Ytoifmijbkfohhaa
set_option linter.unusedSimpArgs false
set_option linter.unusedVariables false
theorem cpt_mem (l : List Int) : ∀ m, m ≤ l.length → ∀ x, x ∈ Lib.compactUpTo l.toArray m ↔ x ∈ l.take m
  | 0, _, x => by simp [Lib.compactUpTo]
  | m + 1, hm, x => by
    have hg : l.toArray[m]! = l[m]'(by omega) := by rw [getElem!_pos l.toArray m (by simpa using (by omega : m < l.length))]; simp
    rw [Lib.compactUpTo_succ, List.mem_append, cpt_mem l m (by omega) x, List.take_add_one, List.mem_append, List.getElem?_eq_getElem (by omega), Option.toList_some]
    by_cases hk : Lib.keeps l.toArray m = true
    · rw [if_pos hk, hg]
    · rw [if_neg hk]
      unfold Lib.keeps at hk
      have hk : ¬ (m = 0 ∨ l.toArray[m]! ≠ l.toArray[m - 1]!) := by simpa using hk
      have h0 : m ≠ 0 := fun e => hk (.inl e)
      have h1 : l.toArray[m]! = l.toArray[m - 1]! := by
        by_cases e : l.toArray[m]! = l.toArray[m - 1]!
        · exact e
        · exact (hk (.inr e)).elim
      have hg1 : l.toArray[m - 1]! = l[m - 1]'(by omega) := by rw [getElem!_pos l.toArray (m - 1) (by simpa using (by omega : m - 1 < l.length))]; simp
      rw [hg, hg1] at h1
      constructor
      · rintro (h | h)
        · exact .inl h
        · cases h
      · rintro (h | h)
        · exact .inl h
        · refine .inl ?_
          rw [List.mem_singleton.1 h, h1]
          exact List.mem_take_iff_getElem.2 ⟨m - 1, by omega, rfl⟩
theorem cpt_sorted {k : Int → Int} {l : List Int} (hs : l.Pairwise (fun x y => k x ≤ k y)) (hi : ∀ x ∈ l, ∀ y ∈ l, k x = k y → x = y) : ∀ m, m ≤ l.length → (Lib.compactUpTo l.toArray m).Pairwise (fun x y => k x < k y)
  | 0, _ => by simp [Lib.compactUpTo]
  | m + 1, hm => by
    rw [Lib.compactUpTo_succ, List.pairwise_append]
    refine ⟨cpt_sorted hs hi m (by omega), by split <;> simp, ?_⟩
    intro x hx y hy
    have hx := (cpt_mem l m (by omega) x).1 hx
    split at hy
    · rename_i hk
      have hg : l.toArray[m]! = l[m]'(by omega) := by rw [getElem!_pos l.toArray m (by simpa using (by omega : m < l.length))]; simp
      rw [List.mem_singleton, hg] at hy
      obtain ⟨j, hj, hjx⟩ := List.mem_take_iff_getElem.1 hx
      have hjm : j < m := by omega
      unfold Lib.keeps at hk
      have hk : m = 0 ∨ l.toArray[m]! ≠ l.toArray[m - 1]! := by simpa using hk
      have hne : l[m]'(by omega) ≠ l[m - 1]'(by omega) := by
        rcases hk with e | e
        · omega
        · rwa [getElem!_pos l.toArray m (by simpa using (by omega : m < l.length)), getElem!_pos l.toArray (m - 1) (by simpa using (by omega : m - 1 < l.length)), List.getElem_toArray, List.getElem_toArray] at e
      have h1 : k (l[m - 1]'(by omega)) ≤ k (l[m]'(by omega)) := List.pairwise_iff_getElem.1 hs (m - 1) m (by omega) (by omega) (by omega)
      have h2 : k (l[m - 1]'(by omega)) ≠ k (l[m]'(by omega)) := fun e => hne (hi _ (List.getElem_mem _) _ (List.getElem_mem _) e).symm
      have h3 : k (l[j]'(by omega)) ≤ k (l[m - 1]'(by omega)) := by
        rcases Nat.lt_or_ge j (m - 1) with q | q
        · exact List.pairwise_iff_getElem.1 hs j (m - 1) (by omega) (by omega) q
        · have : j = m - 1 := by omega
          subst this; exact Int.le_refl _
      rw [hy, ← hjx]
      omega
    · cases hy
/-- two lists that rise strictly and have the same in them -/
theorem strict_same {k : Int → Int} {a b : List Int} (ha : a.Pairwise (fun x y => k x < k y)) (hb : b.Pairwise (fun x y => k x < k y)) (h : ∀ x, x ∈ a ↔ x ∈ b) : a = b := by
  have na : a.Nodup := ha.imp (fun h e => by rw [e] at h; omega)
  have nb : b.Nodup := hb.imp (fun h e => by rw [e] at h; omega)
  exact List.Perm.eq_of_pairwise (le := fun x y => k x < k y) (fun x y _ _ h1 h2 => by omega) ha hb ((List.perm_ext_iff_of_nodup na nb).2 h)
theorem stp_inj {p x y : Int} (hx : 0 ≤ x ∧ x ≤ 4294967295) (hy : 0 ≤ y ∧ y ≤ 4294967295) (h : stp p x = stp p y) : x = y := by unfold stp at h; omega
/-- what so many looks find, one behind the other -/
def lkU (L : List Int) (p s : Int) : Nat → List Int
  | 0 => []
  | i + 1 => if lkQ L p s i = p ∨ lkQ L p s i = (nextR L p).1 then lkU L p s i else lkU L p s i ++ [lkQ L p s i]
theorem lkU_mem {L : List Int} (hL : okR L) (hne : L ≠ []) (p s : Int) : ∀ i x, x ∈ lkU L p s i ↔ x ∈ outS L p s i
  | 0, x => by simp [lkU, outS]
  | i + 1, x => by
    have ih := lkU_mem hL hne p s i
    have hq := lkQ_mem (L := L) p s i hne
    have hok := (outS_ok hL hne p s i).1
    show x ∈ (if lkQ L p s i = p ∨ lkQ L p s i = (nextR L p).1 then lkU L p s i else lkU L p s i ++ [lkQ L p s i]) ↔ x ∈ putS L p (outS L p s i) (lkQ L p s i)
    generalize lkQ L p s i = q at *
    unfold putS
    by_cases h1 : q = p ∨ q = (nextR L p).1
    · rw [if_pos h1, if_pos (by rcases h1 with h | h; exact .inl h; exact .inr (.inl h)), ih]
    · rw [if_neg h1, List.mem_append, List.mem_singleton]
      by_cases h2 : q ∈ outS L p s i
      · rw [if_pos (.inr (.inr h2)), ih]
        constructor
        · rintro (h | h)
          · exact h
          · rw [h]; exact h2
        · exact .inl
      · rw [if_neg (by rintro (h | h | h); exact h1 (.inl h); exact h1 (.inr h); exact h2 h)]
        have hb : ∀ y ∈ q :: outS L p s i, 0 ≤ y ∧ y ≤ 4294967295 := fun y hy => by
          rcases List.mem_cons.1 hy with e | e
          · rw [e]; exact hL.2.1 q hq
          · exact hL.2.1 y (hok.2 y e).1
        rw [insS_mem hb, ih]
        exact or_comm
theorem lkU_len {L : List Int} (p s : Int) : ∀ i, (lkU L p s i).length ≤ i
  | 0 => Nat.le_refl _
  | i + 1 => by
    have := lkU_len (L := L) p s i
    unfold lkU
    split
    · omega
    · simp; omega
theorem lkU_bd {L : List Int} (hL : okR L) (hne : L ≠ []) (p s : Int) (i : Nat) : ∀ x ∈ lkU L p s i, 0 ≤ x ∧ x ≤ 4294967295 := fun x hx =>
  hL.2.1 x ((outS_ok hL hne p s i).1.2 x ((lkU_mem hL hne p s i x).1 hx)).1
/-- sorted, and each once, it is the document's list -/
theorem lkU_is {L : List Int} (hL : okR L) (hne : L ≠ []) (p s : Int) (i : Nat) {l : List Int} (hp : l.Perm (lkU L p s i)) (hs : l.Pairwise (fun x y => stp p x ≤ stp p y)) : Lib.compactUpTo l.toArray l.length = outS L p s i := by
  have hb := lkU_bd hL hne p s i
  refine strict_same (k := stp p) (cpt_sorted hs (fun x hx y hy h => stp_inj (hb x (hp.mem_iff.1 hx)) (hb y (hp.mem_iff.1 hy)) h) _ (Nat.le_refl _)) (outS_ok hL hne p s i).1.1 (fun x => ?_)
  rw [cpt_mem l _ (Nat.le_refl _), List.take_length, hp.mem_iff, lkU_mem hL hne p s i]
end Go.Proofs.Ytoifmijbkfohhaa
