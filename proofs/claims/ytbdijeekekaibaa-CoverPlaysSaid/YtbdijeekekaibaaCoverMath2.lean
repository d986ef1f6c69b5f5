/- What a cover's Add does, as lists: no Go in sight. -/
import Derived.Test.YtbdijeekekaibaaCoverMath
namespace Go.Proofs.Ytbdijeekekaibaa.Cir
set_option linter.unusedVariables false
set_option linter.unusedSimpArgs false
theorem far_step (f p : Int) (bf : 0 ≤ f ∧ f ≤ 4294967295) (hp : 0 ≤ p ∧ p ≤ 4294967295) : far f ((f + p) % 4294967296) = p := by unfold far; omega
theorem beh_step (f p q : Int) (bf : 0 ≤ f ∧ f ≤ 4294967295) (hp : 0 ≤ p) (hpq : p < q) (hq : q ≤ 4294967296) : beh ((f + p) % 4294967296) ((f + q) % 4294967296) = q - p := by unfold beh; omega
theorem hiP_eq (n b : Int) : hiP n b = if n < b then n else b := rfl
theorem pce_norm {n a b lo : Int} (hlo : lo ≤ a) : Norm n lo (pce n a b) := by
  unfold pce
  by_cases h : hiP n b ≤ a
  · rw [if_pos h]; trivial
  · rw [if_neg h]
    have : hiP n b ≤ n := by rw [hiP_eq]; split <;> omega
    exact ⟨hlo, (by show a < hiP n b; omega), this, trivial⟩
theorem norm_two {n lo : Int} {l m : List (Int × Int)} {mid : Int} (hl : Norm n lo l) (hm : Norm n mid m) (h : ∀ x ∈ l, x.2 < mid) (hlo : lo ≤ mid) : Norm n lo (l ++ m) := by
  induction l generalizing lo with
  | nil => exact hm.mono hlo
  | cons x l ih =>
    have := h x (List.mem_cons_self ..)
    exact ⟨hl.1, hl.2.1, hl.2.2.1, ih hl.tail (fun y hy => h y (List.mem_cons_of_mem _ hy)) (by omega)⟩
theorem prts_norm (f t g u : Int) (hg : 0 ≤ g ∧ g ≤ 4294967295) (hu : 0 ≤ u ∧ u ≤ 4294967295) : Norm (beh f t) 0 (prts f t g u) := by
  have b1 := far_bd f g
  have b3 := beh_bd f t
  by_cases h : g = u
  · subst h; rw [prts_whole]; exact ⟨Int.le_refl _, by show (0 : Int) < _; omega, Int.le_refl _, trivial⟩
  · have b2 : 1 ≤ beh g u ∧ beh g u ≤ 4294967295 := by unfold beh; omega
    rw [prts_cut f t g u h hg hu]
    split
    · exact pce_norm b1.1
    · refine norm_two (pce_norm (Int.le_refl _)) (pce_norm (Int.le_refl (far f g))) (fun x hx => ?_) b1.1
      unfold pce at hx
      split at hx
      · cases hx
      · simp only [List.mem_cons, List.not_mem_nil, or_false] at hx
        subst hx
        simp only [hiP_eq]
        split <;> omega
theorem pce_in (n a b v : Int) : inL (pce n a b) v ↔ a < v ∧ v ≤ b ∧ v ≤ n := by
  have e := hiP_eq n b
  unfold pce
  by_cases h : hiP n b ≤ a
  · rw [if_pos h]; simp only [inL_nil, false_iff]; split at e <;> omega
  · rw [if_neg h, inL_cons]; simp only [inL_nil, or_false]; split at e <;> omega
/-- which steps behind f are in the span (g, u] -/
theorem prts_in (f t g u : Int) (bf : 0 ≤ f ∧ f ≤ 4294967295) (hg : 0 ≤ g ∧ g ≤ 4294967295) (hu : 0 ≤ u ∧ u ≤ 4294967295) (v : Int) :
    inL (prts f t g u) v ↔ (0 < v ∧ v ≤ beh f t) ∧ beh g ((f + v) % 4294967296) ≤ beh g u := by
  have b3 := beh_bd f t
  by_cases h : g = u
  · subst h
    have b4 := beh_bd g ((f + v) % 4294967296)
    rw [prts_whole, inL_cons, beh_self]
    simp only [inL_nil, or_false]
    omega
  · have b2 : 1 ≤ beh g u ∧ beh g u ≤ 4294967295 := by unfold beh; omega
    have b1 := far_bd f g
    have key : 0 < v → v ≤ 4294967296 → beh g ((f + v) % 4294967296) = if far f g < v then v - far f g else v + 4294967296 - far f g := by
      intro h1 h2
      unfold far beh
      split <;> omega
    rw [prts_cut f t g u h hg hu]
    generalize beh g u = m at *
    generalize beh f t = n at *
    generalize far f g = d at *
    by_cases hv : 0 < v ∧ v ≤ n
    · have k := key hv.1 (by omega)
      rw [k]
      split
      · rw [pce_in]; split <;> omega
      · rw [inL_append, pce_in, pce_in]; split <;> omega
    · split
      · rw [pce_in]; omega
      · rw [inL_append, pce_in, pce_in]; omega

/-- what is left behind parts that are covered -/
def addL (P l : List (Int × Int)) : List (Int × Int) := P.foldl (fun l p => fillL p.1 p.2 l) l
theorem addL_nil (l : List (Int × Int)) : addL [] l = l := rfl
theorem addL_take (P l : List (Int × Int)) (k : Nat) (h : k < P.length) : addL (P.take (k + 1)) l = fillL (P.getD k (0, 0)).1 (P.getD k (0, 0)).2 (addL (P.take k) l) := by
  unfold addL
  rw [List.take_succ_eq_append_getElem h, List.foldl_append]
  simp [h]
theorem addL_norm {n : Int} : ∀ (P : List (Int × Int)) {l : List (Int × Int)}, (∀ p ∈ P, p.1 < p.2) → Norm n 0 l → Norm n 0 (addL P l)
  | [], l, _, h => h
  | p :: P, l, hp, h => addL_norm P (fun q hq => hp q (List.mem_cons_of_mem _ hq)) (fill_norm (hp p (List.mem_cons_self ..)) h)
theorem addL_in {n : Int} (v : Int) : ∀ (P : List (Int × Int)) {l : List (Int × Int)}, (∀ p ∈ P, p.1 < p.2) → Norm n 0 l → (inL (addL P l) v ↔ inL l v ∧ ¬ inL P v)
  | [], l, _, h => by simp [addL_nil, inL_nil]
  | p :: P, l, hp, h => by
    have e : addL (p :: P) l = addL P (fillL p.1 p.2 l) := rfl
    rw [e, addL_in v P (fun q hq => hp q (List.mem_cons_of_mem _ hq)) (fill_norm (hp p (List.mem_cons_self ..)) h), fill_in (hp p (List.mem_cons_self ..)) h, inL_cons]
    constructor
    · rintro ⟨⟨h1, h2⟩, h3⟩; exact ⟨h1, fun h => h.elim h2 h3⟩
    · rintro ⟨h1, h2⟩; exact ⟨⟨h1, fun h => h2 (.inl h)⟩, fun h => h2 (.inr h)⟩
theorem addL_len {n : Int} : ∀ (P : List (Int × Int)) {l : List (Int × Int)}, (∀ p ∈ P, p.1 < p.2) → Norm n 0 l → (addL P l).length ≤ l.length + P.length
  | [], l, _, h => Nat.le_refl _
  | p :: P, l, hp, h => by
    have h1 := fill_len (hp p (List.mem_cons_self ..)) h
    have h2 := addL_len P (fun q hq => hp q (List.mem_cons_of_mem _ hq)) (fill_norm (hp p (List.mem_cons_self ..)) h)
    rw [List.length_cons]
    exact Nat.le_trans h2 (by omega)
/-- fewer are left -/
theorem fill_less {n lo x y : Int} (hxy : x < y) {l : List (Int × Int)} (h : Norm n lo l) : sumL (fillL x y l) ≤ sumL l := by
  have h1 := sum_fill hxy h
  have h2 : 0 ≤ cntL x y l := by
    rw [cntL_def]
    have : ∀ m : List (Int × Int), (∀ g ∈ m, 0 ≤ ovl x y g) → 0 ≤ (m.map (ovl x y)).sum := by
      intro m
      induction m with
      | nil => intro _; simp
      | cons g m ih =>
        intro hm
        have h1 := hm g (List.mem_cons_self ..)
        have h2 := ih (fun g' h' => hm g' (List.mem_cons_of_mem _ h'))
        rw [List.map_cons, List.sum_cons]; omega
    exact this _ (fun g hg => by
      have h3 := mid_mem h g hg
      exact (ovl_cut hxy g (h.all g h3.1).2.1 h3.2.1 h3.2.2).2.1)
  omega
theorem addL_less {n : Int} : ∀ (P : List (Int × Int)) {l : List (Int × Int)}, (∀ p ∈ P, p.1 < p.2) → Norm n 0 l → sumL (addL P l) ≤ sumL l
  | [], l, _, h => Int.le_refl _
  | p :: P, l, hp, h => by
    have h1 := fill_less (hp p (List.mem_cons_self ..)) h
    have h2 := addL_less P (fun q hq => hp q (List.mem_cons_of_mem _ hq)) (fill_norm (hp p (List.mem_cons_self ..)) h)
    exact Int.le_trans h2 h1
theorem meet_is (f t g u : Int) (bf : 0 ≤ f ∧ f ≤ 4294967295) (bt : 0 ≤ t ∧ t ≤ 4294967295) (bg : 0 ≤ g ∧ g ≤ 4294967295) (bu : 0 ≤ u ∧ u ≤ 4294967295) : meetL f t g u = (prts f t g u).map (spanP f) := (meet_prts f t g u bf bt bg bu).symm
attribute [irreducible] addL
end Go.Proofs.Ytbdijeekekaibaa.Cir
