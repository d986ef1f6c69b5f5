/- Spans turned round, and what two share the other way round: no Go in sight. -/
import Derived.Test.YthdcgobdcdfefaaMakesMath
set_option maxRecDepth 4000
namespace Go.Proofs.Ythdcgobdcdfefaa.Cir
set_option linter.unusedVariables false
/-- turned by n steps -/
def trn (n x : Int) : Int := (x + n) % 4294967296
theorem trn_bd (n x : Int) : 0 ≤ trn n x ∧ trn n x ≤ 4294967295 := by unfold trn; omega
theorem trn_inj (n x y : Int) (hx : 0 ≤ x ∧ x ≤ 4294967295) (hy : 0 ≤ y ∧ y ≤ 4294967295) : trn n x = trn n y ↔ x = y := by unfold trn; omega
theorem far_trn (n f t : Int) : far (trn n f) (trn n t) = far f t := by unfold far trn; omega
theorem beh_trn (n f t : Int) : beh (trn n f) (trn n t) = beh f t := by unfold beh trn; omega
theorem mid_trn (n f t : Int) : mid (trn n f) (trn n t) = trn n (mid f t) := by unfold mid; rw [beh_trn]; unfold trn; omega
def trnS (n : Int) (s : Int × Int) : Int × Int := (trn n s.1, trn n s.2)
theorem cut_trn (n f t a b : Int) : cutL (trn n f) (trn n t) a b = (cutL f t a b).map (trnS n) := by
  have h : cutHi (trn n f) (trn n t) b = cutHi f t b := by unfold cutHi; rw [beh_trn]
  have e : ∀ x : Int, (trn n f + x) % 4294967296 = trn n ((f + x) % 4294967296) := by intro x; unfold trn; omega
  unfold cutL
  rw [h]
  split
  · rfl
  · rw [e, e]; rfl
theorem meet_trn (n f t g u : Int) (hg : 0 ≤ g ∧ g ≤ 4294967295) (hu : 0 ≤ u ∧ u ≤ 4294967295) : meetL (trn n f) (trn n t) (trn n g) (trn n u) = (meetL f t g u).map (trnS n) := by
  unfold meetL
  rw [far_trn, beh_trn]
  by_cases h : g = u
  · rw [if_pos h, if_pos ((trn_inj n g u hg hu).2 h)]; rfl
  · rw [if_neg h, if_neg (fun e => h ((trn_inj n g u hg hu).1 e))]
    split
    · exact cut_trn _ _ _ _ _
    · rw [cut_trn, cut_trn, List.map_append]
theorem meet_sym (f t g u : Int) (hf : 0 ≤ f ∧ f ≤ 4294967295) (ht : 0 ≤ t ∧ t ≤ 4294967295) (hg : 0 ≤ g ∧ g ≤ 4294967295) (hu : 0 ≤ u ∧ u ≤ 4294967295) : szs (meetL f t g u) = szs (meetL g u f t) := by
  have b1 := beh_bd f t
  have b2 := beh_bd g u
  have b3 := far_bd f g
  have b4 := far_bd g f
  have h0 : far f g = 0 ∧ far g f = 0 ∨ far f g + far g f = 4294967296 := by unfold far; omega
  have h1 : g = u → beh g u = 4294967296 := by unfold beh; omega
  have h2 : f = t → beh f t = 4294967296 := by unfold beh; omega
  have h3 : ¬ g = u → beh g u ≤ 4294967295 := by unfold beh; omega
  have h4 : ¬ f = t → beh f t ≤ 4294967295 := by unfold beh; omega
  have hi : ∀ f t b : Int, cutHi f t b = if beh f t < b then beh f t else b := fun f t b => rfl
  have e1 : szs [(f, t)] = beh f t := by simp [szs]
  have e2 : szs [(g, u)] = beh g u := by simp [szs]
  unfold meetL
  by_cases hgu : g = u <;> by_cases hft : f = t
  · rw [if_pos hgu, if_pos hft, e1, e2]; omega
  · rw [if_pos hgu, if_neg hft, e1]
    repeat' split
    all_goals (try simp only [szs_append])
    all_goals repeat rw [cut_szs _ _ _ _ (by omega) (by omega)]
    all_goals simp only [hi]
    all_goals repeat' split
    all_goals omega
  · rw [if_neg hgu, if_pos hft, e2]
    repeat' split
    all_goals (try simp only [szs_append])
    all_goals repeat rw [cut_szs _ _ _ _ (by omega) (by omega)]
    all_goals simp only [hi]
    all_goals repeat' split
    all_goals omega
  · rw [if_neg hgu, if_neg hft]
    repeat' split
    all_goals (try simp only [szs_append])
    all_goals repeat rw [cut_szs _ _ _ _ (by omega) (by omega)]
    all_goals simp only [hi]
    all_goals repeat' split
    all_goals omega
end Go.Proofs.Ythdcgobdcdfefaa.Cir
