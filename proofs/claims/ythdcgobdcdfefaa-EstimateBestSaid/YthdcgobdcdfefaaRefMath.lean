/- The document's own Meet and Less, as lists: no Go in sight. -/
import Derived.Test.YthdcgobdcdfefaaRefOthers
set_option maxRecDepth 4000
namespace Go.Proofs.Ythdcgobdcdfefaa.Cir
set_option linter.unusedVariables false
set_option linter.unusedSimpArgs false
/-- the parts that petasosref01.Parts tells -/
def prts (f t g u : Int) : List (Int × Int) :=
  if far f g + beh g u ≤ 4294967296 then outP (beh f t) [(far f g, far f g + beh g u)] else outP (beh f t) [(0, far f g + beh g u - 4294967296), (far f g, 4294967296)]
theorem prts_whole (f t g : Int) : prts f t g g = [(0, beh f t)] := by
  have b1 := far_bd f g
  have b3 := beh_bd f t
  have e : beh g g = 4294967296 := beh_self g
  unfold prts
  rw [e]
  by_cases h : far f g = 0
  · rw [h, if_pos (by omega)]
    have h1 : hiP (beh f t) 4294967296 = beh f t := by unfold hiP; split <;> omega
    have h2 : ¬ beh f t ≤ 0 := by omega
    simp [outP, addP, h1, h2]
  · rw [if_neg (by omega)]
    have h0 : far f g + 4294967296 - 4294967296 = far f g := by omega
    rw [h0]
    by_cases hn : beh f t ≤ far f g
    · have h1 : hiP (beh f t) (far f g) = beh f t := by unfold hiP; split <;> omega
      have h2 : hiP (beh f t) 4294967296 = beh f t := by unfold hiP; split <;> omega
      have h3 : ¬ beh f t ≤ 0 := by omega
      simp [outP, addP, h1, h2, h3, hn]
    · have h1 : hiP (beh f t) (far f g) = far f g := by unfold hiP; split <;> omega
      have h2 : hiP (beh f t) 4294967296 = beh f t := by unfold hiP; split <;> omega
      have h3 : ¬ far f g ≤ 0 := by omega
      simp [outP, addP, h1, h2, h3, hn]
/-- one piece, from f on -/
def pce (n a b : Int) : List (Int × Int) := if hiP n b ≤ a then [] else [(a, hiP n b)]
theorem prts_cut (f t g u : Int) (h : ¬ g = u) (hg : 0 ≤ g ∧ g ≤ 4294967295) (hu : 0 ≤ u ∧ u ≤ 4294967295) :
    prts f t g u = if far f g + beh g u ≤ 4294967296 then pce (beh f t) (far f g) (far f g + beh g u) else pce (beh f t) 0 (far f g + beh g u - 4294967296) ++ pce (beh f t) (far f g) 4294967296 := by
  have b1 := far_bd f g
  have b2 : 1 ≤ beh g u ∧ beh g u ≤ 4294967295 := by unfold beh; omega
  have b3 := beh_bd f t
  unfold prts
  split
  · unfold pce outP addP
    simp only [List.foldl_cons, List.foldl_nil, List.reverse_nil]
  · have h1 : hiP (beh f t) (far f g + beh g u - 4294967296) < far f g := by unfold hiP; split <;> omega
    have h0 : ¬ hiP (beh f t) (far f g + beh g u - 4294967296) ≤ 0 := by unfold hiP; split <;> omega
    have h2 : ¬ hiP (beh f t) (far f g + beh g u - 4294967296) = far f g := by omega
    unfold pce outP addP
    simp only [List.foldl_cons, List.foldl_nil, List.reverse_nil, if_neg h0, List.reverse_cons, List.nil_append, if_neg h2, List.append_nil]
    split <;> simp
theorem cut_pce (f t a b : Int) : cutL f t a b = (pce (beh f t) a b).map (spanP f) := by
  unfold cutL pce
  have e : cutHi f t b = hiP (beh f t) b := rfl
  rw [e]
  split
  · rfl
  · rfl
theorem end_at (f t : Int) (bf : 0 ≤ f ∧ f ≤ 4294967295) (bt : 0 ≤ t ∧ t ≤ 4294967295) : (f + beh f t) % 4294967296 = t ∧ (f + 0) % 4294967296 = f := by unfold beh; omega
theorem meet_prts (f t g u : Int) (bf : 0 ≤ f ∧ f ≤ 4294967295) (bt : 0 ≤ t ∧ t ≤ 4294967295) (hg : 0 ≤ g ∧ g ≤ 4294967295) (hu : 0 ≤ u ∧ u ≤ 4294967295) :
    (prts f t g u).map (spanP f) = meetL f t g u := by
  by_cases h : g = u
  · subst h
    obtain ⟨e1, e2⟩ := end_at f t bf bt
    rw [prts_whole]
    unfold meetL
    rw [if_pos rfl]
    simp [spanP, e1]
    omega
  · rw [prts_cut f t g u h hg hu]
    unfold meetL
    rw [if_neg h]
    split
    · rw [cut_pce]
    · rw [cut_pce, cut_pce, List.map_append]

theorem oth_nil (n : Int) (h : 0 < n) : othP n [] = [(0, n)] := by simp [othP, runO, h]
theorem oth_one (n a b : Int) (hb : 0 ≤ b) (hbn : b ≤ n) : othP n [(a, b)] = (if 0 < a then [(0, a)] else []) ++ (if b < n then [(b, n)] else []) := by
  have e : maxP 0 b = b := by unfold maxP; split <;> omega
  simp only [othP, runO, List.foldl_cons, List.foldl_nil, stepO, e]
  split <;> split <;> simp
theorem oth_two (n a b c : Int) (ha : 0 < a) (hac : a < b) (hbc : b ≤ c) (hcn : c ≤ n) : othP n [(0, a), (b, c)] = [(a, b)] ++ (if c < n then [(c, n)] else []) := by
  have e : maxP 0 a = a := by unfold maxP; split <;> omega
  have e2 : maxP a c = c := by unfold maxP; split <;> omega
  have e3 : runO [(0, a), (b, c)] = ([(a, b)], c) := by simp [runO, stepO, e, e2, hac]
  unfold othP
  rw [e3]
  split <;> simp
theorem less_parts (n d m d' m' : Int) (hn : 1 ≤ n ∧ n ≤ 4294967296) (hd : 0 ≤ d ∧ d ≤ 4294967295) (hm : 1 ≤ m ∧ m ≤ 4294967295) (hm' : m' = 4294967296 - m) (hd' : d' = if d + m < 4294967296 then d + m else d + m - 4294967296) :
    othP n (if d + m ≤ 4294967296 then pce n d (d + m) else pce n 0 (d + m - 4294967296) ++ pce n d 4294967296) =
      if d' + m' ≤ 4294967296 then pce n d' (d' + m') else pce n 0 (d' + m' - 4294967296) ++ pce n d' 4294967296 := by
  have hi : ∀ b, hiP n b = if n < b then n else b := fun b => rfl
  by_cases h1 : d + m ≤ 4294967296
  · rw [if_pos h1]
    by_cases h2 : n ≤ d
    · have e : pce n d (d + m) = [] := by unfold pce; rw [hi, if_pos (by split <;> omega)]
      rw [e, oth_nil n (by omega)]
      by_cases h3 : d + m < 4294967296
      · rw [if_pos h3] at hd'
        subst hd' hm'
        rw [if_neg (by omega)]
        have e1 : pce n 0 (d + m + (4294967296 - m) - 4294967296) = [(0, n)] := by
          unfold pce; rw [hi]
          have : (if n < d + m + (4294967296 - m) - 4294967296 then n else d + m + (4294967296 - m) - 4294967296) = n := by split <;> omega
          rw [this, if_neg (by omega)]
        have e2 : pce n (d + m) 4294967296 = [] := by unfold pce; rw [hi, if_pos (by split <;> omega)]
        rw [e1, e2]; rfl
      · rw [if_neg h3] at hd'
        have hd0 : d' = 0 := by omega
        subst hd0 hm'
        rw [if_pos (by omega)]
        have e1 : pce n 0 (0 + (4294967296 - m)) = [(0, n)] := by
          unfold pce; rw [hi]
          have : (if n < 0 + (4294967296 - m) then n else 0 + (4294967296 - m)) = n := by split <;> omega
          rw [this, if_neg (by omega)]
        rw [e1]
    · have hx : ∃ x, (if n < d + m then n else d + m) = x ∧ d < x ∧ x ≤ n ∧ (x = n ∧ n ≤ d + m ∨ x = d + m ∧ d + m ≤ n) := by
        split
        · exact ⟨n, rfl, by omega, by omega, by omega⟩
        · exact ⟨d + m, rfl, by omega, by omega, by omega⟩
      obtain ⟨x, hx1, hx2, hx3, hx4⟩ := hx
      have e : pce n d (d + m) = [(d, x)] := by unfold pce; rw [hi, hx1, if_neg (by omega)]
      rw [e, oth_one n d x (by omega) hx3]
      by_cases h3 : d + m < 4294967296
      · rw [if_pos h3] at hd'
        subst hd' hm'
        have e4 : pce n (d + m) 4294967296 = if x < n then [(x, n)] else [] := by
          unfold pce
          rw [hi]
          have : (if n < 4294967296 then n else 4294967296) = n := by split <;> omega
          rw [this]
          by_cases hxn : x < n
          · have : x = d + m := by omega
            rw [if_pos hxn, if_neg (by omega), this]
          · rw [if_neg hxn, if_pos (by omega)]
        by_cases h5 : 0 < d
        · rw [if_neg (show ¬ d + m + (4294967296 - m) ≤ 4294967296 by omega), if_pos h5, e4]
          have e1 : pce n 0 (d + m + (4294967296 - m) - 4294967296) = [(0, d)] := by
            unfold pce; rw [hi]
            have : (if n < d + m + (4294967296 - m) - 4294967296 then n else d + m + (4294967296 - m) - 4294967296) = d := by split <;> omega
            rw [this, if_neg (by omega)]
          rw [e1]
        · have hd0 : d = 0 := by omega
          subst hd0
          rw [if_pos (show 0 + m + (4294967296 - m) ≤ 4294967296 by omega), if_neg h5, show 0 + m + (4294967296 - m) = 4294967296 by omega, e4]
          rfl
      · rw [if_neg h3] at hd'
        have hd0 : d' = 0 := by omega
        subst hd0 hm'
        have hxn : ¬ x < n := by omega
        rw [if_pos (show 0 + (4294967296 - m) ≤ 4294967296 by omega), if_pos (show 0 < d by omega), if_neg hxn, show 0 + (4294967296 - m) = d by omega]
        unfold pce
        rw [hi, if_neg (show ¬ n < d by omega), if_neg (by omega)]
        rfl
  · rw [if_neg h1]
    rw [if_neg (by omega)] at hd'
    subst hd' hm'
    rw [if_pos (show d + m - 4294967296 + (4294967296 - m) ≤ 4294967296 by omega), show d + m - 4294967296 + (4294967296 - m) = d by omega]
    have hA : ∃ x, (if n < d + m - 4294967296 then n else d + m - 4294967296) = x ∧ 0 < x ∧ x ≤ n ∧ (x = n ∧ n ≤ d + m - 4294967296 ∨ x = d + m - 4294967296 ∧ d + m - 4294967296 ≤ n) := by
      split
      · exact ⟨n, rfl, by omega, by omega, by omega⟩
      · exact ⟨d + m - 4294967296, rfl, by omega, by omega, by omega⟩
    obtain ⟨x, hx1, hx2, hx3, hx4⟩ := hA
    have e : pce n 0 (d + m - 4294967296) = [(0, x)] := by unfold pce; rw [hi, hx1, if_neg (by omega)]
    have hM : (if n < 4294967296 then n else 4294967296) = n := by split <;> omega
    rw [e]
    by_cases h2 : n ≤ d
    · have e2 : pce n d 4294967296 = [] := by unfold pce; rw [hi, hM, if_pos h2]
      rw [e2, List.append_nil, oth_one n 0 x (by omega) hx3, if_neg (by omega)]
      unfold pce
      have h5 : (if n < d then n else d) = n := by split <;> omega
      rw [hi, h5]
      by_cases hxn : x < n
      · have : x = d + m - 4294967296 := by omega
        rw [if_pos hxn, if_neg (by omega), this]; rfl
      · rw [if_neg hxn, if_pos (by omega)]; rfl
    · have e2 : pce n d 4294967296 = [(d, n)] := by unfold pce; rw [hi, hM, if_neg h2]
      have hxe : x = d + m - 4294967296 := by omega
      rw [e2]
      show othP n [(0, x), (d, n)] = _
      rw [oth_two n x d n (by omega) (by omega) (by omega) (by omega), if_neg (by omega)]
      unfold pce
      have h5 : (if n < d then n else d) = d := by split <;> omega
      rw [hi, h5, if_neg (by omega), hxe]
      rfl
theorem less_prts (f t g u : Int) (bf : 0 ≤ f ∧ f ≤ 4294967295) (bt : 0 ≤ t ∧ t ≤ 4294967295) (hg : 0 ≤ g ∧ g ≤ 4294967295) (hu : 0 ≤ u ∧ u ≤ 4294967295) :
    (othP (beh f t) (prts f t g u)).map (spanP f) = lessL f t g u := by
  have b1 := far_bd f g
  have b3 := beh_bd f t
  by_cases h : g = u
  · subst h
    rw [prts_whole, oth_one _ _ _ (by omega) (Int.le_refl _)]
    unfold lessL
    simp
  · have hn : ¬ u = g := fun e => h e.symm
    have b2 : 1 ≤ beh g u ∧ beh g u ≤ 4294967295 := by unfold beh; omega
    have e1 : beh u g = 4294967296 - beh g u := by unfold beh; omega
    have e2 : far f u = if far f g + beh g u < 4294967296 then far f g + beh g u else far f g + beh g u - 4294967296 := by unfold far beh; split <;> omega
    rw [prts_cut f t g u h hg hu, less_parts _ _ _ (far f u) (beh u g) b3 b1 b2 e1 e2]
    unfold lessL meetL
    rw [if_neg h, if_neg hn]
    split
    · rw [cut_pce]
    · rw [cut_pce, cut_pce, List.map_append]
end Go.Proofs.Ythdcgobdcdfefaa.Cir
