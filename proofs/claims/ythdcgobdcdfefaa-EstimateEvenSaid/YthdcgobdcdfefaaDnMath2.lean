/- What the laws of density say, of lists. -/
import Derived.Test.YthdcgobdcdfefaaDnMath
set_option maxRecDepth 4000
namespace Go.Proofs.Ythdcgobdcdfefaa
open Cir
set_option linter.unusedVariables false
set_option linter.unusedSimpArgs false
theorem take_all {l : List Int} (h : okD l) : (l.take 16).sum = allD l := by
  rw [List.take_of_length_le (by rw [h.1]; omega)]
  rfl
theorem share_whole (k : Int) (bk : 0 ≤ k ∧ k ≤ 15) (f : Int) (h1 : 0 ≤ f ∧ f ≤ 4294967295) : shareD k (f, f) = 268435456 := by
  rw [share_is k bk (f, f) h1 h1, if_pos rfl]
theorem part_full {l : List Int} {s : Int × Int} {k : Nat} (h : shareD k s = 268435456) : partD l s k = l.getD k 0 := by
  unfold partD
  rw [h]
  omega
theorem part_none {l : List Int} {s : Int × Int} {k : Nat} (h : shareD k s = 0) : partD l s k = 0 := by
  unfold partD
  rw [h, Int.mul_zero]
  rfl
/-- the whole circle has all -/
theorem with_whole {l : List Int} (h : okD l) (f : Int) (h1 : 0 ≤ f ∧ f ≤ 4294967295) : withD l (f, f) = allD l := by
  have key : ∀ k, k ≤ 16 → withT l (f, f) k = (l.take k).sum := by
    intro k
    induction k with
    | zero => intro _; simp [withT]
    | succ k ih =>
      intro hk
      rw [sum_step l (by rw [h.1]; omega), ← ih (by omega)]
      show withT l (f, f) k + partD l (f, f) k = _
      rw [part_full (share_whole k (by omega) f h1)]
  unfold withD
  rw [key 16 (Nat.le_refl _), take_all h]
/-- a bucket's share, by the steps d from ahead of it to the span's beginning, and the span's n -/
def shr (d n : Int) : Int := if d + n ≤ 4294967296 then max 0 (min 268435456 (d + n) - d) else max 0 (min 268435456 (d + n - 4294967296)) + max 0 (268435456 - d)
theorem share_shr (k : Int) (bk : 0 ≤ k ∧ k ≤ 15) (f t : Int) (h1 : 0 ≤ f ∧ f ≤ 4294967295) (h2 : 0 ≤ t ∧ t ≤ 4294967295) (hne : f ≠ t) : shareD k (f, t) = shr ((f - (268435456 * k - 1)) % 4294967296) ((t - f - 1) % 4294967296 + 1) := by
  rw [share_is k bk (f, t) h1 h2, if_neg hne]
  rfl
theorem shr_low {d n : Int} (h : d + n ≤ 4294967296) : shr d n = max 0 (min 268435456 (d + n) - d) := if_pos h
theorem shr_up {d n : Int} (h : ¬ d + n ≤ 4294967296) : shr d n = max 0 (min 268435456 (d + n - 4294967296)) + max 0 (268435456 - d) := if_neg h
theorem shr_beside (d n d2 : Int) (hd : 0 ≤ d ∧ d ≤ 4294967295) (hn : 1 ≤ n ∧ n ≤ 4294967295) (h2 : d2 = d + n ∧ d + n ≤ 4294967295 ∨ d2 = d + n - 4294967296 ∧ 4294967296 ≤ d + n) :
    shr d n + shr d2 (4294967296 - n) = 268435456 ∧ (shr d n = 0 ∨ shr d n = 268435456 ∨ (1 ≤ d ∧ d ≤ 268435456) ∨ (1 ≤ d2 ∧ d2 ≤ 268435456)) := by
  rcases h2 with ⟨rfl, h⟩ | ⟨rfl, h⟩
  · rw [shr_low (by omega)]
    by_cases hd0 : d = 0
    · subst hd0
      rw [shr_low (by omega)]
      omega
    · rw [shr_up (by omega)]
      omega
  · by_cases he : d + n = 4294967296
    · rw [shr_low (by omega), shr_low (by omega)]
      omega
    · rw [shr_up (by omega), shr_low (by omega)]
      omega
theorem in_bucket (k : Int) (bk : 0 ≤ k ∧ k ≤ 15) (f : Int) (h1 : 0 ≤ f ∧ f ≤ 4294967295) (h : 1 ≤ (f - (268435456 * k - 1)) % 4294967296 ∧ (f - (268435456 * k - 1)) % 4294967296 ≤ 268435456) : f / 268435456 = k := by omega
/-- a span, and what is beside it -/
theorem share_beside (k : Int) (bk : 0 ≤ k ∧ k ≤ 15) (f t : Int) (h1 : 0 ≤ f ∧ f ≤ 4294967295) (h2 : 0 ≤ t ∧ t ≤ 4294967295) (hne : f ≠ t) :
    shareD k (f, t) + shareD k (t, f) = 268435456 ∧ (shareD k (f, t) = 0 ∨ shareD k (f, t) = 268435456 ∨ f / 268435456 = k ∨ t / 268435456 = k) := by
  have b1 := in_bucket k bk f h1
  have b2 := in_bucket k bk t h2
  rw [share_shr k bk f t h1 h2 hne, share_shr k bk t f h2 h1 (fun e => hne e.symm)]
  have e1 : (f - t - 1) % 4294967296 + 1 = 4294967296 - ((t - f - 1) % 4294967296 + 1) := by omega
  have e2 : (t - (268435456 * k - 1)) % 4294967296 = (f - (268435456 * k - 1)) % 4294967296 + ((t - f - 1) % 4294967296 + 1) ∧ (f - (268435456 * k - 1)) % 4294967296 + ((t - f - 1) % 4294967296 + 1) ≤ 4294967295 ∨
      (t - (268435456 * k - 1)) % 4294967296 = (f - (268435456 * k - 1)) % 4294967296 + ((t - f - 1) % 4294967296 + 1) - 4294967296 ∧ 4294967296 ≤ (f - (268435456 * k - 1)) % 4294967296 + ((t - f - 1) % 4294967296 + 1) := by omega
  have b3 : 1 ≤ (t - f - 1) % 4294967296 + 1 ∧ (t - f - 1) % 4294967296 + 1 ≤ 4294967295 := by omega
  have b4 : 0 ≤ (f - (268435456 * k - 1)) % 4294967296 ∧ (f - (268435456 * k - 1)) % 4294967296 ≤ 4294967295 := by omega
  rw [e1]
  generalize (f - (268435456 * k - 1)) % 4294967296 = d at *
  generalize (t - (268435456 * k - 1)) % 4294967296 = d2 at *
  generalize (t - f - 1) % 4294967296 + 1 = n at *
  obtain ⟨r1, r2⟩ := shr_beside d n d2 b4 b3 e2
  refine ⟨r1, ?_⟩
  rcases r2 with r | r | r | r
  · exact .inl r
  · exact .inr (.inl r)
  · exact .inr (.inr (.inl (b1 r)))
  · exact .inr (.inr (.inr (b2 r)))
theorem beside_step (p q : Int) (hq : 0 ≤ q ∧ q ≤ 268435456) : p * q / 268435456 + p * (268435456 - q) / 268435456 ≤ p ∧ p - 1 ≤ p * q / 268435456 + p * (268435456 - q) / 268435456 := by
  rw [Int.mul_sub]
  generalize p * q = m
  omega
theorem with_beside {l : List Int} (h : okD l) (f t : Int) (h1 : 0 ≤ f ∧ f ≤ 4294967295) (h2 : 0 ≤ t ∧ t ≤ 4294967295) (hne : f ≠ t) :
    withD l (f, t) + withD l (t, f) ≤ allD l ∧ allD l - withD l (f, t) - withD l (t, f) ≤ 4 := by
  have key : ∀ k : Nat, k ≤ 16 → withT l (f, t) k + withT l (t, f) k ≤ (l.take k).sum ∧ (l.take k).sum - withT l (f, t) k - withT l (t, f) k ≤ (if f / 268435456 < (k : Int) then 1 else 0) + (if t / 268435456 < (k : Int) then 1 else 0) := by
    intro k
    induction k with
    | zero => intro _; simp [withT]; split <;> split <;> omega
    | succ k ih =>
      intro hk
      obtain ⟨i1, i2⟩ := ih (by omega)
      obtain ⟨e1, e2⟩ := share_beside k (by omega) f t h1 h2 hne
      have b1 := share_bd k (by omega) (f, t) h1 h2
      have st := beside_step (l.getD k 0) (shareD k (f, t)) b1
      rw [sum_step l (by rw [h.1]; omega)]
      have p1 : partD l (f, t) k = l.getD k 0 * shareD k (f, t) / 268435456 := rfl
      have p2 : partD l (t, f) k = l.getD k 0 * (268435456 - shareD k (f, t)) / 268435456 := by unfold partD; rw [show shareD k (t, f) = 268435456 - shareD k (f, t) by omega]
      rw [← p1, ← p2] at st
      have w1 : withT l (f, t) (k + 1) = withT l (f, t) k + partD l (f, t) k := rfl
      have w2 : withT l (t, f) (k + 1) = withT l (t, f) k + partD l (t, f) k := rfl
      rw [w1, w2]
      refine ⟨by omega, ?_⟩
      have hc : (((k + 1 : Nat)) : Int) = (k : Int) + 1 := by omega
      rw [hc]
      rcases e2 with e | e | e | e
      · have q1 := part_none (l := l) (s := (f, t)) (k := k) e
        have q2 := part_full (l := l) (s := (t, f)) (k := k) (by omega)
        split <;> split <;> split at i2 <;> split at i2 <;> omega
      · have q1 := part_full (l := l) (s := (f, t)) (k := k) e
        have q2 := part_none (l := l) (s := (t, f)) (k := k) (by omega)
        split <;> split <;> split at i2 <;> split at i2 <;> omega
      · split <;> split <;> split at i2 <;> split at i2 <;> omega
      · split <;> split <;> split at i2 <;> split at i2 <;> omega
  obtain ⟨k1, k2⟩ := key 16 (Nat.le_refl _)
  rw [take_all h] at k1 k2
  unfold withD
  refine ⟨k1, ?_⟩
  split at k2 <;> split at k2 <;> omega
theorem with_le {l : List Int} (h : okD l) (s : Int × Int) (h1 : 0 ≤ s.1 ∧ s.1 ≤ 4294967295) (h2 : 0 ≤ s.2 ∧ s.2 ≤ 4294967295) : 0 ≤ withD l s ∧ withD l s ≤ allD l := by
  have := with_bd h s h1 h2 16 (Nat.le_refl _)
  rw [take_all h] at this
  exact this
/-- a span cut at a bucket's edge -/
theorem shr_cut (d n m de j : Int) (hd : 0 ≤ d ∧ d ≤ 4294967295) (hn : 1 ≤ n) (hm : 1 ≤ m) (hnm : n + m ≤ 4294967295) (he : de = d + n ∧ d + n ≤ 4294967295 ∨ de = d + n - 4294967296 ∧ 4294967296 ≤ d + n) (hj : de = 268435456 * j) :
    shr d n + shr de m = shr d (n + m) ∧ (shr d n = 0 ∨ shr de m = 0 ∨ (1 ≤ d ∧ d ≤ 268435456) ∧ n + m > 2147483648 ∧ (1 ≤ d + n + m - 4294967296 ∧ d + n + m - 4294967296 ≤ 268435456)) := by
  rcases he with ⟨he, h⟩ | ⟨he, h⟩
  · by_cases h2 : d + (n + m) ≤ 4294967296
    · rw [shr_low (d := d) (n := n) (by omega), shr_low (d := de) (by omega), shr_low h2]
      omega
    · rw [shr_low (d := d) (n := n) (by omega), shr_up (d := de) (by omega), shr_up h2]
      omega
  · by_cases h2 : d + n ≤ 4294967296
    · rw [shr_low h2, shr_low (d := de) (by omega), shr_up (d := d) (n := n + m) (by omega)]
      omega
    · rw [shr_up h2, shr_low (d := de) (by omega), shr_up (d := d) (n := n + m) (by omega)]
      omega
set_option maxHeartbeats 4000000 in
theorem share_cut (k : Int) (bk : 0 ≤ k ∧ k ≤ 15) (f t a : Int) (h1 : 0 ≤ f ∧ f ≤ 4294967295) (h2 : 0 ≤ t ∧ t ≤ 4294967295) (ha : 0 ≤ a ∧ a ≤ 15) (e : Int) (he : e = (268435456 * a - 1) % 4294967296) (hne : f ≠ t) (het : e ≠ t)
    (hin : (e - f - 1) % 4294967296 + 1 ≤ (t - f - 1) % 4294967296 + 1) (hbig : ¬ (f / 268435456 = t / 268435456 ∧ (t - f - 1) % 4294967296 + 1 > 2147483648)) :
    shareD k (f, e) + shareD k (e, t) = shareD k (f, t) ∧ (shareD k (f, e) = 0 ∨ shareD k (e, t) = 0) := by
  have be : 0 ≤ e ∧ e ≤ 4294967295 := by omega
  have hef : f ≠ e := by omega
  have b1 := in_bucket k bk f h1
  have b2 := in_bucket k bk t h2
  rw [share_shr k bk f e h1 be hef, share_shr k bk e t be h2 het, share_shr k bk f t h1 h2 hne]
  have e0 : (t - f - 1) % 4294967296 + 1 = ((e - f - 1) % 4294967296 + 1) + ((t - e - 1) % 4294967296 + 1) := by omega
  have e1 : (e - (268435456 * k - 1)) % 4294967296 = (f - (268435456 * k - 1)) % 4294967296 + ((e - f - 1) % 4294967296 + 1) ∧ (f - (268435456 * k - 1)) % 4294967296 + ((e - f - 1) % 4294967296 + 1) ≤ 4294967295 ∨
      (e - (268435456 * k - 1)) % 4294967296 = (f - (268435456 * k - 1)) % 4294967296 + ((e - f - 1) % 4294967296 + 1) - 4294967296 ∧ 4294967296 ≤ (f - (268435456 * k - 1)) % 4294967296 + ((e - f - 1) % 4294967296 + 1) := by clear hin hbig b1 b2 e0; omega
  have e2 : (t - (268435456 * k - 1)) % 4294967296 = (f - (268435456 * k - 1)) % 4294967296 + ((t - f - 1) % 4294967296 + 1) ∧ (f - (268435456 * k - 1)) % 4294967296 + ((t - f - 1) % 4294967296 + 1) ≤ 4294967295 ∨
      (t - (268435456 * k - 1)) % 4294967296 = (f - (268435456 * k - 1)) % 4294967296 + ((t - f - 1) % 4294967296 + 1) - 4294967296 ∧ 4294967296 ≤ (f - (268435456 * k - 1)) % 4294967296 + ((t - f - 1) % 4294967296 + 1) := by clear hin hbig b1 b2 e0 e1 he; omega
  have e3 : (e - (268435456 * k - 1)) % 4294967296 = 268435456 * ((a - k) % 16) := by clear hin hbig b1 b2 e0 e1 e2; omega
  have b3 : 1 ≤ (t - f - 1) % 4294967296 + 1 ∧ (t - f - 1) % 4294967296 + 1 ≤ 4294967295 := by clear hin hbig b1 b2 e0 e1 e2 e3; omega
  have b5 : 1 ≤ (e - f - 1) % 4294967296 + 1 := by clear hin hbig b1 b2 e0 e1 e2 e3; omega
  have b6 : 1 ≤ (t - e - 1) % 4294967296 + 1 := by clear hin hbig b1 b2 e0 e1 e2 e3; omega
  have b4 : 0 ≤ (f - (268435456 * k - 1)) % 4294967296 ∧ (f - (268435456 * k - 1)) % 4294967296 ≤ 4294967295 := by clear hin hbig b1 b2 e0 e1 e2 e3; omega
  clear he hin
  generalize (f - (268435456 * k - 1)) % 4294967296 = d at *
  generalize (t - (268435456 * k - 1)) % 4294967296 = dt at *
  generalize (e - (268435456 * k - 1)) % 4294967296 = de at *
  generalize (t - f - 1) % 4294967296 + 1 = n at *
  generalize (e - f - 1) % 4294967296 + 1 = n1 at *
  generalize (t - e - 1) % 4294967296 + 1 = n2 at *
  obtain ⟨r1, r2⟩ := shr_cut d n1 n2 de ((a - k) % 16) b4 b5 b6 (by omega) e1 e3
  rw [e0]
  refine ⟨r1, ?_⟩
  rcases r2 with r | r | ⟨r, r', r''⟩
  · exact .inl r
  · exact .inr r
  · exfalso
    have hk := b1 r
    have hdt : dt = d + n1 + n2 - 4294967296 := by omega
    have hk2 := b2 (by omega)
    exact hbig ⟨by omega, by omega⟩
theorem with_cut {l : List Int} (h : okD l) (f t a : Int) (h1 : 0 ≤ f ∧ f ≤ 4294967295) (h2 : 0 ≤ t ∧ t ≤ 4294967295) (ha : 0 ≤ a ∧ a ≤ 15) (e : Int) (he : e = (268435456 * a - 1) % 4294967296) (hne : f ≠ t) (het : e ≠ t)
    (hin : (e - f - 1) % 4294967296 + 1 ≤ (t - f - 1) % 4294967296 + 1) (hbig : ¬ (f / 268435456 = t / 268435456 ∧ (t - f - 1) % 4294967296 + 1 > 2147483648)) : withD l (f, e) + withD l (e, t) = withD l (f, t) := by
  have key : ∀ k : Nat, k ≤ 16 → withT l (f, e) k + withT l (e, t) k = withT l (f, t) k := by
    intro k
    induction k with
    | zero => intro _; rfl
    | succ k ih =>
      intro hk
      have i1 := ih (by omega)
      obtain ⟨e1, e2⟩ := share_cut k (by omega) f t a h1 h2 ha e he hne het hin hbig
      show withT l (f, e) k + partD l (f, e) k + (withT l (e, t) k + partD l (e, t) k) = withT l (f, t) k + partD l (f, t) k
      have : partD l (f, e) k + partD l (e, t) k = partD l (f, t) k := by
        rcases e2 with q | q
        · rw [part_none q, Int.zero_add]
          unfold partD
          rw [show shareD k (e, t) = shareD k (f, t) by omega]
        · rw [part_none q, Int.add_zero]
          unfold partD
          rw [show shareD k (f, e) = shareD k (f, t) by omega]
      omega
  exact key 16 (Nat.le_refl _)
theorem sum_set : ∀ (l : List Int) (i : Nat) (a : Int), i < l.length → (l.set i a).sum = l.sum - l.getD i 0 + a
  | x :: l, 0, a, _ => by simp only [List.set_cons_zero, List.sum_cons, List.getD_cons_zero]; omega
  | x :: l, i + 1, a, h => by
    have := sum_set l i a (by simpa using h)
    simp only [List.set_cons_succ, List.sum_cons, List.getD_cons_succ]
    omega
theorem getD_set (l : List Int) (i k : Nat) (a : Int) (hi : i < l.length) : (l.set i a).getD k 0 = if i = k then a else l.getD k 0 := by
  simp only [List.getD_eq_getElem?_getD, List.getElem?_set]
  split
  · rename_i h
    subst h
    simp [hi]
  · rfl
theorem okD.ext {l m : List Int} (h : okD l) (h' : okD m) (he : ∀ k, k < 16 → l.getD k 0 = m.getD k 0) : l = m := by
  apply List.ext_getElem (by rw [h.1, h'.1])
  intro i h1 h2
  have := he i (by rw [h.1] at h1; exact h1)
  simpa [List.getD, h1, h2] using this
/-- a span of whole buckets: what it has, if one bucket turns -/
theorem with_set {l : List Int} (h : okD l) {s : Int × Int} (H : ∀ k : Nat, k < 16 → shareD k s = 0 ∨ shareD k s = 268435456) (i : Nat) (hi : i < 16) (a : Int) : withD (l.set i a) s = withD l s + (if shareD i s = 268435456 then a - l.getD i 0 else 0) := by
  have key : ∀ k, k ≤ 16 → withT (l.set i a) s k = withT l s k + (if i < k then (if shareD i s = 268435456 then a - l.getD i 0 else 0) else 0) := by
    intro k
    induction k with
    | zero => intro _; rfl
    | succ k ih =>
      intro hk
      show withT (l.set i a) s k + partD (l.set i a) s k = withT l s k + partD l s k + _
      rw [ih (by omega)]
      have hg := getD_set l i k a (by rw [h.1]; exact hi)
      have hp : partD (l.set i a) s k = (l.set i a).getD k 0 * shareD k s / 268435456 := rfl
      rcases H k (by omega) with q | q
      · rw [part_none q, part_none q]
        by_cases hik : i = k
        · subst hik
          rw [if_neg (Nat.lt_irrefl _), if_pos (Nat.lt_succ_self _), if_neg (by omega)]
        · by_cases hlt : i < k
          · rw [if_pos hlt, if_pos (show i < k + 1 by omega)]; omega
          · rw [if_neg hlt, if_neg (by omega)]
      · rw [part_full q, part_full q, hg]
        by_cases hik : i = k
        · subst hik
          rw [if_neg (Nat.lt_irrefl _), if_pos (Nat.lt_succ_self _), if_pos q, if_pos rfl]
          omega
        · rw [if_neg hik]
          by_cases hlt : i < k
          · rw [if_pos hlt, if_pos (show i < k + 1 by omega)]; omega
          · rw [if_neg hlt, if_neg (by omega)]; omega
  have := key 16 (Nat.le_refl _)
  rw [if_pos hi] at this
  exact this
theorem bkt_lt {v : Int} (h : 0 ≤ v ∧ v ≤ 4294967295) : (v / 268435456).toNat < 16 := by omega
theorem addD_at {l : List Int} (h : okD l) {v : Int} (hv : 0 ≤ v ∧ v ≤ 4294967295) (n : Int) (k : Nat) : (addD l v n).getD k 0 = if (v / 268435456).toNat = k then heldV (l.getD k 0 + clampV n) else l.getD k 0 := by
  unfold addD
  rw [getD_set l _ k _ (by rw [h.1]; exact bkt_lt hv)]
  split
  · rename_i e; rw [e]
  · rfl
/-- in whatever order values are added -/
theorem add_swap (a b n m : Int) (ha : 0 ≤ a ∧ a ≤ 4294967295) (hb : 0 ≤ b ∧ b ≤ 4294967295) (hn : 0 ≤ n ∧ n ≤ 999) (hm : 0 ≤ m ∧ m ≤ 999) :
    (∀ k : Nat, (addD (addD zeroD a n) b m).getD k 0 = (if (a / 268435456).toNat = k then n else 0) + (if (b / 268435456).toNat = k then m else 0)) := by
  intro k
  have hz : zeroD.getD k 0 = 0 := by
    unfold zeroD
    rw [List.getD_eq_getElem?_getD, List.getElem?_replicate]
    split <;> rfl
  rw [addD_at (okD_zero.add _ _) hb, addD_at okD_zero ha, hz]
  unfold heldV clampV
  split <;> split <;> omega
theorem adds_same (a b n m : Int) (ha : 0 ≤ a ∧ a ≤ 4294967295) (hb : 0 ≤ b ∧ b ≤ 4294967295) (hn : 0 ≤ n ∧ n ≤ 999) (hm : 0 ≤ m ∧ m ≤ 999) : addD (addD zeroD a n) b m = addD (addD zeroD b m) a n :=
  ((okD_zero.add _ _).add _ _).ext ((okD_zero.add _ _).add _ _) (fun k _ => by rw [add_swap a b n m ha hb hn hm, add_swap b a m n hb ha hm hn]; omega)
theorem adds_all (a b n m : Int) (ha : 0 ≤ a ∧ a ≤ 4294967295) (hb : 0 ≤ b ∧ b ≤ 4294967295) (hn : 0 ≤ n ∧ n ≤ 999) (hm : 0 ≤ m ∧ m ≤ 999) : allD (addD (addD zeroD a n) b m) = n + m := by
  have h1 := add_swap a b n 0 ha hb hn (by omega)
  have e1 : addD zeroD a n = zeroD.set (a / 268435456).toNat n := by
    have := addD_at okD_zero ha n (a / 268435456).toNat
    unfold addD
    rw [show zeroD.getD (a / 268435456).toNat 0 = 0 by unfold zeroD; rw [List.getD_eq_getElem?_getD, List.getElem?_replicate]; split <;> rfl]
    rw [show heldV (0 + clampV n) = n by unfold heldV clampV; omega]
  have hl : (zeroD.set (a / 268435456).toNat n).length = 16 := by rw [List.length_set]; rfl
  have hx : (zeroD.set (a / 268435456).toNat n).getD (b / 268435456).toNat 0 = if (a / 268435456).toNat = (b / 268435456).toNat then n else 0 := by
    rw [getD_set _ _ _ _ (by show _ < 16; exact bkt_lt ha)]
    split
    · rfl
    · unfold zeroD; rw [List.getD_eq_getElem?_getD, List.getElem?_replicate]; split <;> rfl
  have e2 : addD (addD zeroD a n) b m = (zeroD.set (a / 268435456).toNat n).set (b / 268435456).toNat ((if (a / 268435456).toNat = (b / 268435456).toNat then n else 0) + m) := by
    rw [e1]
    unfold addD
    rw [hx]
    congr 1
    unfold heldV clampV
    split <;> omega
  rw [e2]
  unfold allD
  rw [sum_set _ _ _ (by rw [hl]; exact bkt_lt hb), hx, sum_set _ _ _ (by show _ < 16; exact bkt_lt ha)]
  have hz : zeroD.sum = 0 := by decide
  have hz2 : zeroD.getD (a / 268435456).toNat 0 = 0 := by unfold zeroD; rw [List.getD_eq_getElem?_getD, List.getElem?_replicate]; split <;> rfl
  rw [hz, hz2]
  omega
theorem adds_back (a b n m : Int) (ha : 0 ≤ a ∧ a ≤ 4294967295) (hb : 0 ≤ b ∧ b ≤ 4294967295) (hn : 0 ≤ n ∧ n ≤ 999) (hm : 0 ≤ m ∧ m ≤ 999) : addD (addD (addD (addD zeroD a n) b m) a (-n)) b (-m) = zeroD := by
  have o := (okD_zero.add a n).add b m
  refine ((o.add a (-n)).add b (-m)).ext okD_zero (fun k _ => ?_)
  have hz : zeroD.getD k 0 = 0 := by unfold zeroD; rw [List.getD_eq_getElem?_getD, List.getElem?_replicate]; split <;> rfl
  rw [hz, addD_at (o.add a (-n)) hb, addD_at o ha, add_swap a b n m ha hb hn hm]
  unfold heldV clampV
  split <;> split <;> omega
theorem adds_less (a : Int) (ha : 0 ≤ a ∧ a ≤ 4294967295) : addD zeroD a (-5) = zeroD := by
  refine (okD_zero.add a (-5)).ext okD_zero (fun k _ => ?_)
  have hz : zeroD.getD k 0 = 0 := by unfold zeroD; rw [List.getD_eq_getElem?_getD, List.getElem?_replicate]; split <;> rfl
  rw [addD_at okD_zero ha, hz]
  unfold heldV clampV
  split <;> omega
end Go.Proofs.Ythdcgobdcdfefaa
