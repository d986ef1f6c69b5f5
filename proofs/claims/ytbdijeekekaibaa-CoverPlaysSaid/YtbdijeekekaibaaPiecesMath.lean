/- A span that is covered piece by piece: no Go in sight. -/
import Derived.Test.YtbdijeekekaibaaCoverMath2
namespace Go.Proofs.Ytbdijeekekaibaa.Cir
set_option linter.unusedVariables false
/-- the values of l: those of 1 .. n, but for the first c of the span behind g -/
def CLeft (f n g c : Int) (l : List (Int × Int)) : Prop := ∀ v, inL l v ↔ (0 < v ∧ v ≤ n) ∧ ¬ beh g ((f + v) % 4294967296) ≤ c
theorem left_begin (f n g : Int) (hn : 1 ≤ n) : CLeft f n g 0 [(0, n)] := by
  intro v
  have := beh_bd g ((f + v) % 4294967296)
  rw [inL_cons]
  simp only [inL_nil, or_false]
  omega
theorem piece_has (g c s V : Int) (hg : 0 ≤ g ∧ g ≤ 4294967295) (hc : 0 ≤ c) (hs : 1 ≤ s) (hcs : c + s ≤ 4294967296) :
    beh ((g + c) % 4294967296) V ≤ beh ((g + c) % 4294967296) ((g + (c + s)) % 4294967296) ↔ c < beh g V ∧ beh g V ≤ c + s := by
  unfold beh; omega
theorem prts_lt (f t g u : Int) (hg : 0 ≤ g ∧ g ≤ 4294967295) (hu : 0 ≤ u ∧ u ≤ 4294967295) : ∀ p ∈ prts f t g u, p.1 < p.2 := fun p hp => ((prts_norm f t g u hg hu).all p hp).2.1
theorem left_add (f t g c s : Int) (l : List (Int × Int)) (bf : 0 ≤ f ∧ f ≤ 4294967295) (hg : 0 ≤ g ∧ g ≤ 4294967295) (hc : 0 ≤ c) (hs : 1 ≤ s) (hcs : c + s ≤ 4294967296) (hl : CLeft f (beh f t) g c l) (hn : Norm (beh f t) 0 l) :
    CLeft f (beh f t) g (c + s) (addL (prts f t ((g + c) % 4294967296) ((g + (c + s)) % 4294967296)) l) := by
  intro v
  have h1 : 0 ≤ (g + c) % 4294967296 ∧ (g + c) % 4294967296 ≤ 4294967295 := by omega
  have h2 : 0 ≤ (g + (c + s)) % 4294967296 ∧ (g + (c + s)) % 4294967296 ≤ 4294967295 := by omega
  rw [addL_in v _ (prts_lt f t _ _ h1 h2) hn, prts_in f t _ _ bf h1 h2 v, hl v, piece_has g c s _ hg hc hs hcs]
  have := beh_bd g ((f + v) % 4294967296)
  generalize beh g ((f + v) % 4294967296) = b at *
  generalize beh f t = n at *
  omega
theorem left_all (f t g u : Int) (bf : 0 ≤ f ∧ f ≤ 4294967295) (hg : 0 ≤ g ∧ g ≤ 4294967295) (hu : 0 ≤ u ∧ u ≤ 4294967295) : CLeft f (beh f t) g (beh g u) (addL (prts f t g u) [(0, beh f t)]) := by
  have bd := beh_bd f t
  have e : u = (g + (0 + beh g u)) % 4294967296 := by unfold beh; omega
  have e0 : g = (g + 0) % 4294967296 := by omega
  have b2 := beh_bd g u
  have h := left_add f t g 0 (beh g u) [(0, beh f t)] bf hg (Int.le_refl _) b2.1 (by omega) (left_begin f (beh f t) g bd.1) ⟨Int.le_refl _, by show (0 : Int) < _; omega, Int.le_refl _, trivial⟩
  rw [← e, ← e0, Int.zero_add] at h
  exact h
theorem left_one {f n g c : Int} {l m : List (Int × Int)} (h1 : CLeft f n g c l) (h2 : CLeft f n g c m) (hl : Norm n 0 l) (hm : Norm n 0 m) : l = m := norm_ext hl hm (fun v => (h1 v).trans (h2 v).symm)
theorem to_is (g u : Int) (hg : 0 ≤ g ∧ g ≤ 4294967295) (hu : 0 ≤ u ∧ u ≤ 4294967295) (c : Int) : (g + (c + (beh g u - c))) % 4294967296 = u := by unfold beh; omega
attribute [irreducible] CLeft
end Go.Proofs.Ytbdijeekekaibaa.Cir
