/- What the pieces of a span have, counted: no Go in sight. -/
import Derived.Test.YthdcgobdcdfefaaMath
set_option maxRecDepth 4000
namespace Go.Proofs.Ythdcgobdcdfefaa.Cir
set_option linter.unusedVariables false
def hasB (s : Int × Int) (v : Int) : Bool := decide (beh s.1 v ≤ beh s.1 s.2)
def one (b : Bool) : Int := if b then 1 else 0
def cnt (v : Int) : List (Int × Int) → Int
  | [] => 0
  | s :: l => one (hasB s v) + cnt v l
def szs : List (Int × Int) → Int
  | [] => 0
  | s :: l => beh s.1 s.2 + szs l
theorem cnt_append (v : Int) (l m : List (Int × Int)) : cnt v (l ++ m) = cnt v l + cnt v m := by
  induction l with
  | nil => simp [cnt]
  | cons s l ih => simp only [List.cons_append, cnt, ih]; omega
theorem szs_append (l m : List (Int × Int)) : szs (l ++ m) = szs l + szs m := by
  induction l with
  | nil => simp [szs]
  | cons s l ih => simp only [List.cons_append, szs, ih]; omega
theorem cnt_take (v : Int) (l : List (Int × Int)) (k : Nat) (h : k < l.length) : cnt v (l.take (k + 1)) = cnt v (l.take k) + one (hasB (l.getD k (0, 0)) v) := by
  rw [List.take_succ_eq_append_getElem h, cnt_append]
  simp [cnt, h]
theorem szs_take (l : List (Int × Int)) (k : Nat) (h : k < l.length) : szs (l.take (k + 1)) = szs (l.take k) + beh (l.getD k (0, 0)).1 (l.getD k (0, 0)).2 := by
  rw [List.take_succ_eq_append_getElem h, szs_append]
  simp [szs, h]
theorem cnt_bd (v : Int) (l : List (Int × Int)) : 0 ≤ cnt v l ∧ cnt v l ≤ l.length := by
  induction l with
  | nil => simp [cnt]
  | cons s l ih => simp only [cnt, one, List.length_cons]; split <;> omega
theorem szs_bd (l : List (Int × Int)) : 0 ≤ szs l ∧ szs l ≤ 4294967296 * l.length := by
  induction l with
  | nil => simp [szs]
  | cons s l ih => have := beh_bd s.1 s.2; simp only [szs, List.length_cons]; omega

/-- a piece: more than lo, at most hi steps behind f -/
theorem piece_size (f lo hi : Int) (h0 : 0 ≤ lo) (h1 : lo < hi) (h2 : hi ≤ 4294967296) : beh ((f + lo) % 4294967296) ((f + hi) % 4294967296) = hi - lo := by unfold beh; omega
theorem piece_has (f lo hi v : Int) (hv : 0 ≤ v ∧ v ≤ 4294967295) (h0 : 0 ≤ lo) (h1 : lo < hi) (h2 : hi ≤ 4294967296) :
    hasB ((f + lo) % 4294967296, (f + hi) % 4294967296) v = decide (lo < beh f v ∧ beh f v ≤ hi) := by
  have e := piece_size f lo hi h0 h1 h2
  have b := beh_bd f v
  have hb : beh ((f + lo) % 4294967296) v = if lo < beh f v then beh f v - lo else beh f v - lo + 4294967296 := by unfold beh; split <;> omega
  unfold hasB
  simp only [e, hb]
  congr 1
  apply propext
  split <;> omega
theorem cut_cnt (f t a b v : Int) (hv : 0 ≤ v ∧ v ≤ 4294967295) (ha : 0 ≤ a) (hb : 0 ≤ b) :
    cnt v (cutL f t a b) = one (decide (a < beh f v ∧ beh f v ≤ b ∧ beh f v ≤ beh f t)) := by
  have h1 := cutHi_bd f t b hb
  have h2 := beh_bd f t
  have h3 : cutHi f t b = b ∨ cutHi f t b = beh f t := by unfold cutHi; split <;> simp
  have h4 : ∀ x : Int, x ≤ cutHi f t b ↔ x ≤ b ∧ x ≤ beh f t := by intro x; unfold cutHi; split <;> omega
  unfold cutL
  split
  · have : ¬ (a < beh f v ∧ beh f v ≤ b ∧ beh f v ≤ beh f t) := by intro ⟨x, y, z⟩; have := (h4 _).2 ⟨y, z⟩; omega
    simp [cnt, one, this]
  · rw [cnt, cnt, piece_has f a (cutHi f t b) v hv ha (by omega) (by omega)]
    have : decide (a < beh f v ∧ beh f v ≤ cutHi f t b) = decide (a < beh f v ∧ beh f v ≤ b ∧ beh f v ≤ beh f t) := by congr 1; rw [h4]
    rw [this]; omega
theorem cut_szs (f t a b : Int) (ha : 0 ≤ a) (hb : 0 ≤ b) : szs (cutL f t a b) = if cutHi f t b ≤ a then 0 else cutHi f t b - a := by
  have h1 := cutHi_bd f t b hb
  have h2 := beh_bd f t
  unfold cutL
  split
  · simp [szs]
  · rw [szs, szs, piece_size f a (cutHi f t b) ha (by omega) (by omega)]; omega

/-- what both have, counted -/
theorem meet_cnt (f t g u v : Int) (hv : 0 ≤ v ∧ v ≤ 4294967295) : cnt v (meetL f t g u) = one (hasB (f, t) v && hasB (g, u) v) := by
  have b1 := beh_bd f v
  have b2 := beh_bd g u
  have b3 := beh_bd f t
  have b4 := far_bd f g
  unfold meetL
  split
  · rename_i h
    subst h
    have e : hasB (g, g) v = true := by unfold hasB; simp only [beh_self]; have := beh_bd g v; simp; omega
    simp [cnt, e]
  · have hg : beh g v = if far f g < beh f v then beh f v - far f g else beh f v - far f g + 4294967296 := by unfold beh far; split <;> omega
    have hh : (hasB (f, t) v && hasB (g, u) v) = decide (beh f v ≤ beh f t ∧ beh g v ≤ beh g u) := by unfold hasB; simp
    rw [hh]
    split
    · rw [cut_cnt _ _ _ _ _ hv (by omega) (by omega)]
      congr 2
      apply propext
      rw [hg]; split <;> omega
    · rw [cnt_append, cut_cnt _ _ _ _ _ hv (by omega) (by omega), cut_cnt _ _ _ _ _ hv (by omega) (by omega)]
      unfold one
      rw [hg]
      simp only [decide_eq_true_eq]
      repeat' split
      all_goals omega
theorem meet_len (f t g u : Int) : (meetL f t g u).length ≤ 2 := by
  unfold meetL
  split
  · simp
  · have h1 := cutL_len f t (far f g) (far f g + beh g u)
    have h2 := cutL_len f t 0 (far f g + beh g u - 4294967296)
    have h3 := cutL_len f t (far f g) 4294967296
    split
    · omega
    · rw [List.length_append]; omega
theorem less_len (f t g u : Int) : (lessL f t g u).length ≤ 2 := by
  unfold lessL; split
  · simp
  · exact meet_len _ _ _ _
theorem less_cnt (f t g u v : Int) (hg : 0 ≤ g ∧ g ≤ 4294967295) (hu : 0 ≤ u ∧ u ≤ 4294967295) (hv : 0 ≤ v ∧ v ≤ 4294967295) : cnt v (lessL f t g u) = one (hasB (f, t) v && !hasB (g, u) v) := by
  unfold lessL
  split
  · rename_i h
    subst h
    have e : hasB (g, g) v = true := by unfold hasB; simp only [beh_self]; have := beh_bd g v; simp; omega
    simp [cnt, e, one]
  · rename_i h
    rw [meet_cnt _ _ _ _ _ hv]
    have e : hasB (u, g) v = !hasB (g, u) v := by
      unfold hasB
      have h1 : beh g u + beh u g = 4294967296 := by unfold beh; omega
      have h2 : beh u v = if beh g u < beh g v then beh g v - beh g u else beh g v - beh g u + 4294967296 := by unfold beh; split <;> omega
      have h3 := beh_bd g v
      simp only [h2]
      rw [← decide_not]
      congr 1
      apply propext
      split <;> omega
    rw [e]
theorem makes_szs (f t g u : Int) (hg : 0 ≤ g ∧ g ≤ 4294967295) (hu : 0 ≤ u ∧ u ≤ 4294967295) : szs (meetL f t g u) + szs (lessL f t g u) = beh f t := by
  have b2 := beh_bd g u
  have b3 := beh_bd f t
  have b4 := far_bd f g
  have b5 := far_bd f u
  have b6 := beh_bd u g
  unfold lessL
  split
  · rename_i h
    subst h
    unfold meetL
    rw [if_pos rfl]; simp [szs]
  · rename_i h
    have hn : ¬ u = g := fun e => h e.symm
    have h1 : beh g u + beh u g = 4294967296 := by unfold beh; omega
    have h2 : far f u = if far f g + beh g u < 4294967296 then far f g + beh g u else far f g + beh g u - 4294967296 := by unfold far beh; split <;> omega
    have hi : ∀ b : Int, cutHi f t b = if beh f t < b then beh f t else b := fun b => rfl
    unfold meetL
    rw [if_neg h, if_neg hn]
    repeat' split
    all_goals (try simp only [szs_append])
    all_goals repeat rw [cut_szs _ _ _ _ (by omega) (by omega)]
    all_goals simp only [hi]
    all_goals repeat' split
    all_goals omega
end Go.Proofs.Ythdcgobdcdfefaa.Cir
