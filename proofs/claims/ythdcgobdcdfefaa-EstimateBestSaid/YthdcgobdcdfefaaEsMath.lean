/- Plain arithmetic of estimates: parts of 65,536, the best hub. -/
import Derived.Test.YthdcgobdcdfefaaDnMath2
import Derived.Test.YthdcgobdcdfefaaBoxRef
set_option maxRecDepth 4000
namespace Go.Proofs.Ythdcgobdcdfefaa
open Cir
set_option linter.unusedVariables false
set_option linter.unusedSimpArgs false
abbrev Rng3 := Int × Int × Int
/-- a range's bounds -/
def okRn (r : Rng3) : Prop := (-9223372036854775808 ≤ r.1 ∧ r.1 ≤ 9223372036854775807) ∧ (0 ≤ r.2.1 ∧ r.2.1 ≤ 4294967295) ∧ 0 ≤ r.2.2 ∧ r.2.2 ≤ 4294967295
def spanS (r : Rng3) : Int × Int := ((spanV r).1, (spanV r).2.1)
def partR (l : List Int) (r : Rng3) : Int :=
  if (spanV r).2.2 = false then 0 else if allD l = 0 then beh (spanV r).1 (spanV r).2.1 / 65536 else withD l (spanS r) * 65536 / allD l
theorem spanV_bd {r : Rng3} (h : okRn r) : (0 ≤ (spanV r).1 ∧ (spanV r).1 ≤ 4294967295) ∧ 0 ≤ (spanV r).2.1 ∧ (spanV r).2.1 ≤ 4294967295 := by
  obtain ⟨_, h1, h2⟩ := h
  unfold spanV
  split
  · dsimp only; omega
  · split <;> dsimp only <;> omega
theorem part_le {l : List Int} (h : okD l) {r : Rng3} (hr : okRn r) : 0 ≤ partR l r ∧ partR l r ≤ 65536 := by
  obtain ⟨b1, b2⟩ := spanV_bd hr
  have b3 := with_le h (spanS r) b1 b2
  have b4 := beh_bd (spanV r).1 (spanV r).2.1
  unfold partR
  split
  · omega
  · split
    · omega
    · rename_i h2
      have hp : 0 < allD l := by have := h.all_bd; omega
      constructor
      · exact Int.ediv_nonneg (by omega) (by omega)
      · exact Int.le_of_lt_add_one (Int.ediv_lt_of_lt_mul hp (by omega))
/-- the best of the first n: the least, of several the first -/
def bestI (P : Nat → Int) : Nat → Nat
  | 0 => 0
  | n + 1 => if P (n + 1) < P (bestI P n) then n + 1 else bestI P n
theorem bestI_le (P : Nat → Int) : ∀ n, bestI P n ≤ n
  | 0 => Nat.le_refl _
  | n + 1 => by
    have := bestI_le P n
    unfold bestI
    split <;> omega
theorem bestI_is (P : Nat → Int) : ∀ n i, i ≤ n → P (bestI P n) ≤ P i ∧ (i < bestI P n → P (bestI P n) < P i)
  | 0, i, h => by
    have : i = 0 := by omega
    subst this
    exact ⟨Int.le_refl _, fun h => absurd h (Nat.lt_irrefl _)⟩
  | n + 1, i, h => by
    unfold bestI
    split
    · rename_i hlt
      by_cases hi : i = n + 1
      · subst hi; exact ⟨Int.le_refl _, fun h => absurd h (Nat.lt_irrefl _)⟩
      · have := (bestI_is P n i (by omega)).1
        exact ⟨by omega, fun _ => by omega⟩
    · rename_i hge
      by_cases hi : i = n + 1
      · subst hi
        exact ⟨by omega, fun h => absurd h (by have := bestI_le P n; omega)⟩
      · exact bestI_is P n i (by omega)
/-- as much as a greater span has, or less -/
theorem shr_mono (d n m : Int) (hd : 0 ≤ d ∧ d ≤ 4294967295) (hn : 1 ≤ n) (hnm : n ≤ m) (hm : m ≤ 4294967296) : shr d n ≤ shr d m := by
  by_cases h1 : d + n ≤ 4294967296
  · rw [shr_low h1]
    by_cases h2 : d + m ≤ 4294967296
    · rw [shr_low h2]; omega
    · rw [shr_up h2]; omega
  · rw [shr_up h1, shr_up (by omega)]; omega
theorem share_mono (k : Int) (bk : 0 ≤ k ∧ k ≤ 15) (f t u : Int) (h1 : 0 ≤ f ∧ f ≤ 4294967295) (h2 : 0 ≤ t ∧ t ≤ 4294967295) (h3 : 0 ≤ u ∧ u ≤ 4294967295) (hft : f ≠ t) (hfu : f ≠ u) (h : (t - f - 1) % 4294967296 ≤ (u - f - 1) % 4294967296) : shareD k (f, t) ≤ shareD k (f, u) := by
  rw [share_shr k bk f t h1 h2 hft, share_shr k bk f u h1 h3 hfu]
  exact shr_mono _ _ _ (by omega) (by omega) (by omega) (by omega)
theorem with_mono {l : List Int} (h : okD l) (f t u : Int) (h1 : 0 ≤ f ∧ f ≤ 4294967295) (h2 : 0 ≤ t ∧ t ≤ 4294967295) (h3 : 0 ≤ u ∧ u ≤ 4294967295) (hft : f ≠ t) (hfu : f ≠ u) (hle : (t - f - 1) % 4294967296 ≤ (u - f - 1) % 4294967296) : withD l (f, t) ≤ withD l (f, u) := by
  have key : ∀ k : Nat, k ≤ 16 → withT l (f, t) k ≤ withT l (f, u) k := by
    intro k
    induction k with
    | zero => intro _; exact Int.le_refl _
    | succ k ih =>
      intro hk
      have i1 := ih (by omega)
      have m1 := share_mono k (by omega) f t u h1 h2 h3 hft hfu hle
      have m2 : l.getD k 0 * shareD k (f, t) ≤ l.getD k 0 * shareD k (f, u) := Int.mul_le_mul_of_nonneg_left m1 (h.at k).1
      show withT l (f, t) k + partD l (f, t) k ≤ withT l (f, u) k + partD l (f, u) k
      have : partD l (f, t) k ≤ partD l (f, u) k := by unfold partD; omega
      omega
  exact key 16 (Nat.le_refl _)
theorem part_none3 (l : List Int) : partR l (3, 0, 0) = 0 := by unfold partR spanV; simp
theorem part_any {l : List Int} (h : okD l) : partR l (1, 0, 0) = 65536 := by
  have e : spanV (1, 0, 0) = (4294967295, 4294967295, true) := rfl
  unfold partR spanS
  rw [e]
  dsimp only
  rw [if_neg (by simp), beh_self, with_whole h _ (by omega)]
  split
  · rfl
  · rename_i h2
    rw [Int.mul_comm, Int.mul_ediv_cancel _ h2]
theorem grow_eq (l : List Int) (lo hi : Int) (hlo : 0 ≤ lo ∧ lo ≤ 4294967295) : partR l (2, lo, hi) = if allD l = 0 then beh ((lo - 1) % 4294967296) hi / 65536 else withD l ((lo - 1) % 4294967296, hi) * 65536 / allD l := by
  have e : spanV (2, lo, hi) = ((lo - 1) % 4294967296, hi, true) := rfl
  unfold partR spanS
  rw [e]
  dsimp only
  rw [if_neg (by simp)]
theorem grows {l : List Int} (h : okD l) (lo hi m : Int) (hlo : 0 ≤ lo ∧ lo ≤ 4294967295) (hhi : 0 ≤ hi ∧ hi ≤ 4294967295) (hm : 0 ≤ m ∧ m < (lo - hi - 1) % 4294967296) : partR l (2, lo, hi) ≤ partR l (2, lo, (hi + m) % 4294967296) := by
  rw [grow_eq l lo hi hlo, grow_eq l lo _ hlo]
  have hle : (hi - (lo - 1) % 4294967296 - 1) % 4294967296 ≤ ((hi + m) % 4294967296 - (lo - 1) % 4294967296 - 1) % 4294967296 := by omega
  split
  · have e1 : beh ((lo - 1) % 4294967296) hi = (hi - (lo - 1) % 4294967296 - 1) % 4294967296 + 1 := by unfold beh; rfl
    have e2 : beh ((lo - 1) % 4294967296) ((hi + m) % 4294967296) = ((hi + m) % 4294967296 - (lo - 1) % 4294967296 - 1) % 4294967296 + 1 := by unfold beh; rfl
    omega
  · rename_i h2
    have hp : 0 < allD l := by have := h.all_bd; omega
    have hw := with_mono h ((lo - 1) % 4294967296) hi ((hi + m) % 4294967296) (by omega) hhi (by omega) (by omega) (by omega) hle
    exact Int.ediv_le_ediv hp (by omega)
/-- all shares make up the span -/
def below (f t : Int) (j : Int) : Int := if f < t then max 0 (min (268435456 * j) (t + 1) - (f + 1)) else max 0 (268435456 * j - (f + 1)) + min (268435456 * j) (t + 1)
theorem share_below (k : Int) (bk : 0 ≤ k ∧ k ≤ 15) (f t : Int) (h1 : 0 ≤ f ∧ f ≤ 4294967295) (h2 : 0 ≤ t ∧ t ≤ 4294967295) (hne : f ≠ t) : shareD k (f, t) = below f t (k + 1) - below f t k := by
  rw [share_shr k bk f t h1 h2 hne]
  unfold below
  by_cases hft : f < t
  · rw [if_pos hft, if_pos hft]
    have en : (t - f - 1) % 4294967296 + 1 = t - f := by omega
    rw [en]
    by_cases hd : 268435456 * k - 1 ≤ f
    · have ed : (f - (268435456 * k - 1)) % 4294967296 = f - 268435456 * k + 1 := by omega
      rw [ed, shr_low (by omega)]
      omega
    · have ed : (f - (268435456 * k - 1)) % 4294967296 = f - 268435456 * k + 1 + 4294967296 := by omega
      rw [ed]
      by_cases hs : f - 268435456 * k + 1 + 4294967296 + (t - f) ≤ 4294967296
      · rw [shr_low hs]; omega
      · rw [shr_up hs]; omega
  · rw [if_neg hft, if_neg hft]
    have en : (t - f - 1) % 4294967296 + 1 = t - f + 4294967296 := by omega
    rw [en]
    by_cases hz : f - 268435456 * k + 1 = 4294967296
    · have ed : (f - (268435456 * k - 1)) % 4294967296 = 0 := by omega
      rw [ed, shr_low (by omega)]
      omega
    by_cases hd : 268435456 * k - 1 ≤ f
    · have ed : (f - (268435456 * k - 1)) % 4294967296 = f - 268435456 * k + 1 := by omega
      rw [ed]
      by_cases hs : f - 268435456 * k + 1 + (t - f + 4294967296) ≤ 4294967296
      · rw [shr_low hs]; omega
      · rw [shr_up hs]; omega
    · have ed : (f - (268435456 * k - 1)) % 4294967296 = f - 268435456 * k + 1 + 4294967296 := by omega
      rw [ed, shr_up (by omega)]
      omega
/-- of an even density -/
def evenD (c : Int) : List Int := List.replicate 16 c
theorem even_at (c : Int) (k : Nat) (hk : k < 16) : (evenD c).getD k 0 = c := by unfold evenD; rw [List.getD_eq_getElem?_getD, List.getElem?_replicate, if_pos hk]; rfl
theorem even_ok {c : Int} (h : 0 ≤ c ∧ c ≤ 4294967295) : okD (evenD c) := ⟨by simp [evenD], fun x hx => by rw [List.eq_of_mem_replicate hx]; exact h⟩
theorem even_all (c : Int) : allD (evenD c) = 16 * c := by
  unfold allD evenD
  simp only [List.replicate, List.sum_cons, List.sum_nil]
  omega
theorem even_with (K : Int) (bK : 1 ≤ K ∧ K ≤ 1000) (f t : Int) (h1 : 0 ≤ f ∧ f ≤ 4294967295) (h2 : 0 ≤ t ∧ t ≤ 4294967295) (hne : f ≠ t) :
    256 * withD (evenD (1048576 * K)) (f, t) ≤ K * beh f t ∧ K * beh f t - 256 * withD (evenD (1048576 * K)) (f, t) ≤ 510 := by
  have key : ∀ k : Nat, k ≤ 16 → 256 * withT (evenD (1048576 * K)) (f, t) k ≤ K * below f t k ∧ K * below f t k - 256 * withT (evenD (1048576 * K)) (f, t) k ≤ (if f / 268435456 < (k : Int) then 255 else 0) + (if t / 268435456 < (k : Int) then 255 else 0) := by
    intro k
    induction k with
    | zero =>
      intro _
      have e : below f t ((0 : Nat) : Int) = 0 := by
        show below f t 0 = 0
        unfold below; split <;> omega
      rw [e]
      simp only [withT, Int.mul_zero]
      refine ⟨Int.le_refl _, ?_⟩
      split <;> split <;> omega
    | succ k ih =>
      intro hk
      obtain ⟨i1, i2⟩ := ih (by omega)
      have sb := share_below k (by omega) f t h1 h2 hne
      obtain ⟨_, sp⟩ := share_beside k (by omega) f t h1 h2 hne
      have hc : (((k + 1 : Nat)) : Int) = (k : Int) + 1 := by omega
      rw [hc]
      have ew : withT (evenD (1048576 * K)) (f, t) (k + 1) = withT (evenD (1048576 * K)) (f, t) k + partD (evenD (1048576 * K)) (f, t) k := rfl
      have ep : partD (evenD (1048576 * K)) (f, t) k = K * shareD k (f, t) / 256 := by
        unfold partD
        rw [even_at _ _ (by omega), Int.mul_assoc]
        generalize K * shareD k (f, t) = q
        omega
      have eb : K * below f t ((k : Int) + 1) = K * below f t k + K * shareD k (f, t) := by rw [sb, ← Int.mul_add]; congr 1; omega
      rw [ew, ep, eb]
      have hz : shareD k (f, t) = 0 → K * shareD k (f, t) = 0 := fun e => by rw [e, Int.mul_zero]
      have hf : shareD k (f, t) = 268435456 → K * shareD k (f, t) = 256 * (K * 1048576) := fun e => by rw [e]; omega
      generalize K * shareD k (f, t) = q at *
      refine ⟨by omega, ?_⟩
      rcases sp with e | e | e | e
      · have := hz e
        split <;> split <;> split at i2 <;> split at i2 <;> omega
      · have := hf e
        split <;> split <;> split at i2 <;> split at i2 <;> omega
      · split <;> split <;> split at i2 <;> split at i2 <;> omega
      · split <;> split <;> split at i2 <;> split at i2 <;> omega
  obtain ⟨k1, k2⟩ := key 16 (Nat.le_refl _)
  have e : below f t ((16 : Nat) : Int) = beh f t := by
    have eb : beh f t = (t - f - 1) % 4294967296 + 1 := by unfold beh; rfl
    rw [eb]
    show below f t 16 = _
    unfold below
    split <;> omega
  rw [e] at k1 k2
  refine ⟨k1, ?_⟩
  split at k2 <;> split at k2 <;> (unfold withD; omega)
theorem even_part (K : Int) (bK : 1 ≤ K ∧ K ≤ 1000) (lo hi : Int) (hlo : 0 ≤ lo ∧ lo ≤ 4294967295) (hhi : 0 ≤ hi ∧ hi ≤ 4294967295) :
    partR (evenD (1048576 * K)) (2, lo, hi) ≤ ((hi - lo) % 4294967296 + 1) / 65536 ∧ ((hi - lo) % 4294967296 + 1) / 65536 - partR (evenD (1048576 * K)) (2, lo, hi) ≤ 1 := by
  rw [grow_eq _ lo hi hlo, even_all, if_neg (by omega)]
  have eb : beh ((lo - 1) % 4294967296) hi = (hi - lo) % 4294967296 + 1 := by unfold beh; omega
  by_cases hne : (lo - 1) % 4294967296 = hi
  · rw [hne, with_whole (even_ok (by omega)) hi hhi, even_all]
    have e1 : (hi - lo) % 4294967296 + 1 = 4294967296 := by omega
    rw [e1]
    have e2 : 16 * (1048576 * K) * 65536 / (16 * (1048576 * K)) = 65536 := by rw [Int.mul_comm, Int.mul_ediv_cancel _ (by omega)]
    rw [e2]
    omega
  · obtain ⟨w1, w2⟩ := even_with K bK ((lo - 1) % 4294967296) hi (by omega) hhi hne
    rw [eb] at w1 w2
    generalize withD (evenD (1048576 * K)) ((lo - 1) % 4294967296, hi) = W at *
    generalize (hi - lo) % 4294967296 + 1 = s at *
    have hK : 0 < 16 * (1048576 * K) := by omega
    obtain ⟨p, hp⟩ : ∃ p, p = W * 65536 / (16 * (1048576 * K)) := ⟨_, rfl⟩
    have p1 : p * (16 * (1048576 * K)) ≤ W * 65536 := by rw [hp]; exact Int.ediv_mul_le _ (by omega)
    have p2 : W * 65536 < (p + 1) * (16 * (1048576 * K)) := by rw [hp]; exact Int.lt_ediv_add_one_mul_self _ hK
    rw [← hp]
    have q1 : p * (16 * (1048576 * K)) = 256 * 65536 * (p * K) := by rw [Int.mul_comm p (16 * (1048576 * K)), Int.mul_comm p K]; rw [show 16 * (1048576 * K) = 256 * 65536 * K by omega, Int.mul_assoc]
    have q2 : (p + 1) * (16 * (1048576 * K)) = 256 * 65536 * (p * K) + 256 * 65536 * K := by rw [Int.add_mul, q1]; omega
    rw [q1] at p1
    rw [q2] at p2
    constructor
    · have : K * (p * 65536) ≤ K * s := by rw [← Int.mul_assoc, Int.mul_comm K p]; omega
      have := Int.le_of_mul_le_mul_left this (by omega)
      omega
    · have : K * s ≤ K * ((p + 1) * 65536 + 509) := by
        rw [Int.mul_add, Int.add_mul, Int.mul_add, ← Int.mul_assoc, Int.mul_comm K p]
        omega
      have := Int.le_of_mul_le_mul_left this (by omega)
      omega
end Go.Proofs.Ythdcgobdcdfefaa
