/- Spans that are covered in any order: no Go in sight. -/
import Derived.Test.YtbdijeekekaibaaApartMath
namespace Go.Proofs.Ytbdijeekekaibaa.Cir
set_option linter.unusedVariables false
/-- what is left of n values behind f, when all of some spans are covered -/
def CRest (f n : Int) (l ls : List (Int × Int)) : Prop := ∀ v, inL l v ↔ (0 < v ∧ v ≤ n) ∧ ∀ s ∈ ls, ¬ beh s.1 ((f + v) % 4294967296) ≤ beh s.1 s.2
theorem rest_begin (f n : Int) : CRest f n [(0, n)] [] := by
  intro v
  rw [inL_cons]
  simp only [inL_nil, or_false, List.not_mem_nil, false_imp_iff, implies_true, and_true]
theorem rest_add (f t : Int) (l ls : List (Int × Int)) (g u : Int) (bf : 0 ≤ f ∧ f ≤ 4294967295) (bg : 0 ≤ g ∧ g ≤ 4294967295) (bu : 0 ≤ u ∧ u ≤ 4294967295) (hn : Norm (beh f t) 0 l) (h : CRest f (beh f t) l ls) :
    CRest f (beh f t) (addL (prts f t g u) l) (ls ++ [(g, u)]) := by
  intro v
  rw [addL_in v _ (prts_lt f t g u bg bu) hn, prts_in f t g u bf bg bu v, h v]
  simp only [List.mem_append, List.mem_cons, List.not_mem_nil, or_false]
  constructor
  · rintro ⟨⟨h1, h2⟩, h3⟩
    refine ⟨h1, fun s hs => ?_⟩
    rcases hs with hs | rfl
    · exact h2 s hs
    · exact fun h4 => h3 ⟨h1, h4⟩
  · rintro ⟨h1, h2⟩
    exact ⟨⟨h1, fun s hs => h2 s (.inl hs)⟩, fun h4 => h2 (g, u) (.inr rfl) h4.2⟩
theorem rest_one {f n : Int} {l m ls ms : List (Int × Int)} (h1 : CRest f n l ls) (h2 : CRest f n m ms) (he : ∀ s, s ∈ ls ↔ s ∈ ms) (hl : Norm n 0 l) (hm : Norm n 0 m) : l = m :=
  norm_ext hl hm (fun v => by
    rw [h1 v, h2 v]
    constructor
    · rintro ⟨a, b⟩; exact ⟨a, fun s hs => b s ((he s).2 hs)⟩
    · rintro ⟨a, b⟩; exact ⟨a, fun s hs => b s ((he s).1 hs)⟩)
/-- covered once more, nothing turns -/
theorem rest_again {f t : Int} {l ls : List (Int × Int)} {g u : Int} (bf : 0 ≤ f ∧ f ≤ 4294967295) (bg : 0 ≤ g ∧ g ≤ 4294967295) (bu : 0 ≤ u ∧ u ≤ 4294967295) (hn : Norm (beh f t) 0 l) (h : CRest f (beh f t) l (ls ++ [(g, u)])) : addL (prts f t g u) l = l :=
  rest_one (rest_add f t l _ g u bf bg bu hn h) h (by intro s; simp) (addL_norm _ (prts_lt f t g u bg bu) hn) hn
theorem Norm.drop {n : Int} (hn : 0 ≤ n) : ∀ {l : List (Int × Int)} {lo : Int} (k : Nat), Norm n lo l → 0 ≤ lo → Norm n 0 (l.drop k)
  | [], lo, k, _, _ => by rw [List.drop_nil]; trivial
  | x :: l, lo, 0, h, hlo => by rw [List.drop_zero]; exact Norm.mono h hlo
  | x :: l, lo, k + 1, h, hlo => by rw [List.drop_succ_cons]; exact Norm.drop hn k h.tail (by have := h.1; have := h.2.1; omega)
theorem drop_cons {l : List (Int × Int)} {k : Nat} (hk : k < l.length) : l.drop k = l.getD k (0, 0) :: l.drop (k + 1) := by
  rw [List.drop_eq_getElem_cons hk]
  simp [List.getD, hk]
/-- its first gap is covered -/
theorem add_first {f t : Int} (bf : 0 ≤ f ∧ f ≤ 4294967295) {l : List (Int × Int)} (hn : Norm (beh f t) 0 l) {k : Nat} (hk : k < l.length) {p q : Int} (hpq : l.getD k (0, 0) = (p, q)) :
    addL (prts f t ((f + p) % 4294967296) ((f + q) % 4294967296)) (l.drop k) = l.drop (k + 1) := by
  have bd := beh_bd f t
  have hb := hn.at hk
  rw [hpq] at hb
  have h1 := Norm.drop (by omega) k hn (Int.le_refl _)
  have h2 := Norm.drop (by omega) (k + 1) hn (Int.le_refl _)
  have e := part_prts f t p q bf hb.1 hb.2.1 hb.2.2
  rw [e]
  have hlt : ∀ x ∈ [(p, q)], x.1 < x.2 := by intro x hx; simp only [List.mem_cons, List.not_mem_nil, or_false] at hx; subst hx; exact hb.2.1
  refine norm_ext (addL_norm _ hlt h1) h2 (fun v => ?_)
  rw [addL_in v _ hlt h1, drop_cons hk, hpq, inL_cons, inL_cons]
  simp only [inL_nil, or_false]
  rw [drop_cons hk, hpq] at h1
  constructor
  · rintro ⟨h | h, h3⟩
    · exact absurd h h3
    · exact h
  · intro h
    have := h1.tail.bd v h
    exact ⟨.inr h, by show ¬ (p < v ∧ v ≤ q); simp only [] at this; omega⟩
theorem sum_drop {l : List (Int × Int)} {k : Nat} (hk : k < l.length) : sumL (l.drop k) = ((l.getD k (0, 0)).2 - (l.getD k (0, 0)).1) + sumL (l.drop (k + 1)) := by
  rw [drop_cons hk, sumL_cons]

/-- two that change places -/
def swapL (m : List (Int × Int)) (a b : Nat) : List (Int × Int) := (m.set a (m.getD b (0, 0))).set b (m.getD a (0, 0))
theorem swap_len (m : List (Int × Int)) (a b : Nat) : (swapL m a b).length = m.length := by simp [swapL]
theorem swap_at (m : List (Int × Int)) (a b j : Nat) (ha : a < m.length) (hb : b < m.length) (hj : j < m.length) :
    (swapL m a b)[j]? = m[if j = b then a else if j = a then b else j]? := by
  unfold swapL
  rw [List.getElem?_set]
  by_cases h1 : b = j
  · subst h1
    simp [hb, ha, List.getD]
  · rw [if_neg h1, List.getElem?_set]
    have h1' : ¬ j = b := fun e => h1 e.symm
    rw [if_neg h1']
    by_cases h2 : a = j
    · subst h2; simp [ha, hb, List.getD]
    · have h2' : ¬ j = a := fun e => h2 e.symm
      rw [if_neg h2, if_neg h2']
theorem swap_mem (m : List (Int × Int)) (a b : Nat) (ha : a < m.length) (hb : b < m.length) (s : Int × Int) : s ∈ swapL m a b ↔ s ∈ m := by
  constructor
  · intro h
    obtain ⟨j, hs⟩ := List.mem_iff_getElem?.1 h
    have hj : j < m.length := by have := (List.getElem?_eq_some_iff.1 hs).1; rwa [swap_len] at this
    rw [swap_at m a b j ha hb hj] at hs
    exact List.mem_iff_getElem?.2 ⟨_, hs⟩
  · intro h
    obtain ⟨j, hs⟩ := List.mem_iff_getElem?.1 h
    have hj := (List.getElem?_eq_some_iff.1 hs).1
    have hx : (if j = b then a else if j = a then b else j) < m.length := by
      split
      · exact ha
      · split
        · exact hb
        · exact hj
    refine List.mem_iff_getElem?.2 ⟨if j = b then a else if j = a then b else j, ?_⟩
    rw [swap_at m a b _ ha hb hx, ← hs]
    congr 1
    by_cases h1 : j = b
    · subst h1
      rw [if_pos rfl]
      by_cases h2 : a = j
      · subst h2; simp
      · rw [if_neg h2, if_pos rfl]
    · rw [if_neg h1]
      by_cases h2 : j = a
      · subst h2; rw [if_pos rfl, if_pos rfl]
      · rw [if_neg h2, if_neg h1, if_neg h2]
theorem mem_take_same {l m : List (Int × Int)} (h : ∀ s, s ∈ m ↔ s ∈ l) (hl : m.length = l.length) : ∀ s, s ∈ l.take l.length ↔ s ∈ m.take l.length := by
  intro s
  rw [List.take_length, ← hl, List.take_length]
  exact (h s).symm
attribute [irreducible] CRest swapL
end Go.Proofs.Ytbdijeekekaibaa.Cir
