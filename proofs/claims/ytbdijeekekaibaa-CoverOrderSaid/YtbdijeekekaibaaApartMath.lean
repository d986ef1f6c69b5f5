/- Gaps lie apart, and apart from what was covered: no Go in sight. -/
import Derived.Test.YtbdijeekekaibaaPiecesMath
namespace Go.Proofs.Ytbdijeekekaibaa.Cir
set_option linter.unusedVariables false
theorem step_bd (f p : Int) : 0 ≤ (f + p) % 4294967296 ∧ (f + p) % 4294967296 ≤ 4294967295 := by omega
theorem part_prts (f t p q : Int) (bf : 0 ≤ f ∧ f ≤ 4294967295) (hp : 0 ≤ p) (hpq : p < q) (hq : q ≤ beh f t) : prts f t ((f + p) % 4294967296) ((f + q) % 4294967296) = [(p, q)] := by
  have bd := beh_bd f t
  refine norm_ext (prts_norm f t _ _ (step_bd f p) (step_bd f q)) (n' := beh f t) (lo' := 0) ⟨hp, hpq, hq, trivial⟩ (fun v => ?_)
  rw [prts_in f t _ _ bf (step_bd f p) (step_bd f q) v, beh_step f p q bf hp hpq (by omega), inL_cons]
  simp only [inL_nil, or_false]
  by_cases hv : 0 < v ∧ v ≤ beh f t
  · have e : beh ((f + p) % 4294967296) ((f + v) % 4294967296) ≤ q - p ↔ p < v ∧ v ≤ q := by unfold beh; omega
    rw [e]; omega
  · omega
theorem meet_part (f t p q : Int) (bf : 0 ≤ f ∧ f ≤ 4294967295) (bt : 0 ≤ t ∧ t ≤ 4294967295) (hp : 0 ≤ p) (hpq : p < q) (hq : q ≤ beh f t) : meetL f t ((f + p) % 4294967296) ((f + q) % 4294967296) = [spanP f (p, q)] := by
  rw [meet_is f t _ _ bf bt (step_bd f p) (step_bd f q), part_prts f t p q bf hp hpq hq]
  rfl
/-- none of the values of l, from f on, is in one of the spans -/
def Off (f : Int) (l : List (Int × Int)) (ls : List (Int × Int)) : Prop := ∀ s ∈ ls, ∀ v, inL l v → ¬ beh s.1 ((f + v) % 4294967296) ≤ beh s.1 s.2
theorem off_nil (f : Int) (l : List (Int × Int)) : Off f l [] := fun s hs => by cases hs
theorem off_add (f t : Int) (l ls : List (Int × Int)) (g u : Int) (bf : 0 ≤ f ∧ f ≤ 4294967295) (bg : 0 ≤ g ∧ g ≤ 4294967295) (bu : 0 ≤ u ∧ u ≤ 4294967295) (hn : Norm (beh f t) 0 l) (h : Off f l ls) : Off f (addL (prts f t g u) l) (ls ++ [(g, u)]) := by
  intro s hs v hv
  rw [addL_in v _ (prts_lt f t g u bg bu) hn, prts_in f t g u bf bg bu v] at hv
  rcases List.mem_append.1 hs with hs | hs
  · exact h s hs v hv.1
  · simp only [List.mem_cons, List.not_mem_nil, or_false] at hs
    subst hs
    intro hb
    have := hn.bd v hv.1
    exact hv.2 ⟨this, hb⟩
theorem off_meet (f t p q g u : Int) (l ls : List (Int × Int)) (bf : 0 ≤ f ∧ f ≤ 4294967295) (hn : Norm (beh f t) 0 l) (hm : (p, q) ∈ l) (bg : 0 ≤ g ∧ g ≤ 4294967295) (bu : 0 ≤ u ∧ u ≤ 4294967295) (hs : (g, u) ∈ ls) (h : Off f l ls) :
    meetL ((f + p) % 4294967296) ((f + q) % 4294967296) g u = [] := by
  obtain ⟨h1, h2, h3⟩ := hn.all _ hm
  have bd := beh_bd f t
  rw [meet_is _ _ g u (step_bd f p) (step_bd f q) bg bu]
  have hp := prts_norm ((f + p) % 4294967296) ((f + q) % 4294967296) g u bg bu
  have hin := prts_in ((f + p) % 4294967296) ((f + q) % 4294967296) g u (step_bd f p) bg bu
  rw [beh_step f p q bf h1 h2 (by omega)] at hin hp
  cases hpe : prts ((f + p) % 4294967296) ((f + q) % 4294967296) g u with
  | nil => rfl
  | cons x m =>
    rw [hpe] at hp hin
    have hx := (hin x.2).1 ((inL_cons x m _).2 (.inl ⟨hp.2.1, Int.le_refl _⟩))
    refine absurd hx.2 ?_
    have e : ((f + p) % 4294967296 + x.2) % 4294967296 = (f + (p + x.2)) % 4294967296 := by omega
    rw [e]
    exact h (g, u) hs (p + x.2) ⟨(p, q), hm, (by show p < p + x.2; omega), (by show p + x.2 ≤ q; omega)⟩
attribute [irreducible] Off
end Go.Proofs.Ytbdijeekekaibaa.Cir
