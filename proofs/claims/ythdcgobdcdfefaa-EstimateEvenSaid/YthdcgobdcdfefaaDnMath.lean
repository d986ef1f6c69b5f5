/- Plain arithmetic of densities: sixteen buckets, shares of a span. -/
import Derived.Test.YthdcgobdcdfefaaMakesMath
set_option maxRecDepth 4000
namespace Go.Proofs.Ythdcgobdcdfefaa
open Cir
set_option linter.unusedVariables false
/-- within its bounds -/
def heldV (a : Int) : Int := max 0 (min a 2147483647)
/-- as many as may be asked -/
def clampV (n : Int) : Int := max (-1099511627776) (min n 1099511627776)
def addD (l : List Int) (v n : Int) : List Int := l.set (v / 268435456).toNat (heldV (l.getD (v / 268435456).toNat 0 + clampV n))
def allD (l : List Int) : Int := l.sum
/-- a density: sixteen numbers of 32 bits -/
def okD (l : List Int) : Prop := l.length = 16 ∧ ∀ x ∈ l, 0 ≤ x ∧ x ≤ 4294967295
def zeroD : List Int := List.replicate 16 0
/-- how many of a bucket's values are in a span -/
def shareD (k : Int) (s : Int × Int) : Int := szs (meetL ((268435456 * k - 1) % 4294967296) ((268435456 * k + 268435455) % 4294967296) s.1 s.2)
def partD (l : List Int) (s : Int × Int) (k : Nat) : Int := l.getD k 0 * shareD k s / 268435456
/-- of the first k buckets -/
def withT (l : List Int) (s : Int × Int) : Nat → Int
  | 0 => 0
  | k + 1 => withT l s k + partD l s k
def withD (l : List Int) (s : Int × Int) : Int := withT l s 16
/-- bucket by bucket, the first k -/
def sumT (a b : List Int) : Nat → List Int
  | 0 => a
  | k + 1 => (sumT a b k).set k (heldV ((sumT a b k).getD k 0 + b.getD k 0))
def sumD2 (a b : List Int) : List Int := sumT a b 16
def sumD (L : List (List Int)) : List Int := L.foldl sumD2 zeroD

theorem heldV_bd (a : Int) : 0 ≤ heldV a ∧ heldV a ≤ 2147483647 := by unfold heldV; omega
theorem heldV_in {a : Int} (h : 0 ≤ a ∧ a ≤ 2147483647) : heldV a = a := by unfold heldV; omega
theorem clampV_bd (n : Int) : -1099511627776 ≤ clampV n ∧ clampV n ≤ 1099511627776 := by unfold clampV; omega
theorem clampV_in {n : Int} (h : -1099511627776 ≤ n ∧ n ≤ 1099511627776) : clampV n = n := by unfold clampV; omega
theorem okD_zero : okD zeroD := ⟨rfl, fun x hx => by rw [List.eq_of_mem_replicate hx]; omega⟩
theorem okD.at {l : List Int} (h : okD l) (k : Nat) : 0 ≤ l.getD k 0 ∧ l.getD k 0 ≤ 4294967295 := by
  by_cases hk : k < l.length
  · rw [show l.getD k 0 = l[k] by simp [List.getD, hk]]; exact h.2 _ (List.getElem_mem hk)
  · rw [List.getD_eq_getElem?_getD, List.getElem?_eq_none (by omega)]; exact ⟨Int.le_refl _, by simp⟩
theorem okD.set {l : List Int} (h : okD l) (k : Nat) (a : Int) : okD (l.set k (heldV a)) := ⟨by rw [List.length_set]; exact h.1, fun x hx => by
  rcases List.mem_or_eq_of_mem_set hx with hx | rfl
  · exact h.2 x hx
  · have := heldV_bd a; omega⟩
theorem okD.add {l : List Int} (h : okD l) (v n : Int) : okD (addD l v n) := h.set _ _
theorem okD.sumT {a b : List Int} (h : okD a) : ∀ k, okD (sumT a b k)
  | 0 => h
  | k + 1 => (okD.sumT h k).set _ _
theorem okD.sum2 {a b : List Int} (h : okD a) : okD (sumD2 a b) := h.sumT 16
theorem okD.foldl : ∀ (L : List (List Int)) {a : List Int}, okD a → okD (L.foldl sumD2 a)
  | [], _, h => h
  | _ :: L, _, h => okD.foldl L h.sum2
theorem okD.sum (L : List (List Int)) : okD (sumD L) := okD.foldl L okD_zero
theorem sum_bd : ∀ (l : List Int), (∀ x ∈ l, 0 ≤ x ∧ x ≤ 4294967295) → 0 ≤ l.sum ∧ l.sum ≤ 4294967295 * l.length
  | [], _ => by simp
  | a :: l, h => by
    have h1 := sum_bd l (fun x hx => h x (List.mem_cons_of_mem _ hx))
    have h2 := h a List.mem_cons_self
    rw [List.sum_cons, List.length_cons]
    omega
theorem okD.all_bd {l : List Int} (h : okD l) : 0 ≤ allD l ∧ allD l ≤ 68719476720 := by
  have := sum_bd l h.2
  rw [h.1] at this
  unfold allD
  omega
theorem sum_step (l : List Int) {k : Nat} (hk : k < l.length) : (l.take (k + 1)).sum = (l.take k).sum + l.getD k 0 := by
  rw [List.take_add_one, List.sum_append]
  simp [List.getD, hk]
theorem sum_take_bd {l : List Int} (h : okD l) (k : Nat) : 0 ≤ (l.take k).sum ∧ (l.take k).sum ≤ 68719476720 := by
  have := sum_bd (l.take k) (fun x hx => h.2 x (List.mem_of_mem_take hx))
  have h2 : (l.take k).length ≤ 16 := by rw [List.length_take, h.1]; omega
  omega
/-- a bucket's share of a span, by steps -/
theorem share_is (k : Int) (bk : 0 ≤ k ∧ k ≤ 15) (s : Int × Int) (h1 : 0 ≤ s.1 ∧ s.1 ≤ 4294967295) (h2 : 0 ≤ s.2 ∧ s.2 ≤ 4294967295) :
    shareD k s = if s.1 = s.2 then 268435456 else
      (fun d n : Int => if d + n ≤ 4294967296 then max 0 (min 268435456 (d + n) - d) else max 0 (min 268435456 (d + n - 4294967296)) + max 0 (268435456 - d)) ((s.1 - (268435456 * k - 1)) % 4294967296) ((s.2 - s.1 - 1) % 4294967296 + 1) := by
  unfold shareD
  have e0 : beh ((268435456 * k - 1) % 4294967296) ((268435456 * k + 268435455) % 4294967296) = 268435456 := by unfold beh; omega
  have e1 : far ((268435456 * k - 1) % 4294967296) s.1 = (s.1 - (268435456 * k - 1)) % 4294967296 := by unfold far; omega
  have e2 : beh s.1 s.2 = (s.2 - s.1 - 1) % 4294967296 + 1 := by unfold beh; rfl
  unfold meetL
  split
  · simp [szs, e0]
  · dsimp only
    split
    · rename_i hle
      rw [e1, e2] at hle
      rw [if_pos hle, cut_szs _ _ _ _ (by rw [e1]; omega) (by rw [e1, e2]; omega)]
      unfold cutHi
      rw [e0, e1, e2]
      split <;> split at * <;> omega
    · rename_i hle
      rw [e1, e2] at hle
      rw [if_neg hle, szs_append, cut_szs _ _ _ _ (by omega) (by rw [e1, e2]; omega), cut_szs _ _ _ _ (by rw [e1]; omega) (by omega)]
      unfold cutHi
      rw [e0, e1, e2]
      split <;> split <;> split at * <;> split at * <;> omega
theorem share_bd (k : Int) (bk : 0 ≤ k ∧ k ≤ 15) (s : Int × Int) (h1 : 0 ≤ s.1 ∧ s.1 ≤ 4294967295) (h2 : 0 ≤ s.2 ∧ s.2 ≤ 4294967295) : 0 ≤ shareD k s ∧ shareD k s ≤ 268435456 := by
  rw [share_is k bk s h1 h2]
  split
  · omega
  · dsimp only; split <;> omega
theorem part_bd {l : List Int} (h : okD l) (k : Nat) (hk : k ≤ 15) (s : Int × Int) (h1 : 0 ≤ s.1 ∧ s.1 ≤ 4294967295) (h2 : 0 ≤ s.2 ∧ s.2 ≤ 4294967295) : 0 ≤ partD l s k ∧ partD l s k ≤ l.getD k 0 ∧ 0 ≤ l.getD k 0 * shareD k s ∧ l.getD k 0 * shareD k s ≤ 1152921504606846975 := by
  have b1 := h.at k
  have b2 := share_bd k (by omega) s h1 h2
  have m1 : 0 ≤ l.getD k 0 * shareD k s := Int.mul_nonneg b1.1 b2.1
  have m2 : l.getD k 0 * shareD k s ≤ l.getD k 0 * 268435456 := Int.mul_le_mul_of_nonneg_left b2.2 b1.1
  unfold partD
  omega
theorem with_bd {l : List Int} (h : okD l) (s : Int × Int) (h1 : 0 ≤ s.1 ∧ s.1 ≤ 4294967295) (h2 : 0 ≤ s.2 ∧ s.2 ≤ 4294967295) : ∀ k, k ≤ 16 → 0 ≤ withT l s k ∧ withT l s k ≤ (l.take k).sum
  | 0, _ => by simp [withT]
  | k + 1, hk => by
    have a := with_bd h s h1 h2 k (by omega)
    have b := part_bd h k (by omega) s h1 h2
    rw [sum_step l (by rw [h.1]; omega)]
    unfold withT
    omega
end Go.Proofs.Ythdcgobdcdfefaa
