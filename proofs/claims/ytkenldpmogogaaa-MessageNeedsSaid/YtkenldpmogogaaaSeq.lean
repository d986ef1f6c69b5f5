/- A region that draws no order, run operation by operation as a Walk (XRun): guarded calls and loads cost nothing. -/
import Derived.Test.YtkenldpmogogaaaRun
set_option maxRecDepth 4000
namespace Go.Proofs.Ytkenldpmogogaaa.Run
open Go Go.RowKit
set_option linter.unusedVariables false
section
variable {P : Program} {ops : Array Oper} {Q : Exit → Act → World → Prop}
/-- the steps: ks tells which operations are no light ones -/
def seqOf (ops : Array Oper) : List Oper → List Nat → List (Nat × Option (Option Tmp × Bool) × Oper)
  | [], _ => []
  | o :: l, [] => (0, guardOf ops o, o) :: seqOf ops l []
  | o :: l, 0 :: ks => (0, guardOf ops o, o) :: seqOf ops l ks
  | o :: l, _ :: ks => (1, guardOf ops o, o) :: seqOf ops l ks
theorem seq_light {S : World → Prop} {o : Oper} {rest : List Oper} {l : List (Nat × Option (Option Tmp × Bool) × Oper)} {a : Act} {w : World} (ih : ∀ a w, Walk P Q S l a w → S w → wpList P ops Q rest a w) (h : Walk P Q S ((0, guardOf ops o, o) :: l) a w) (hS : S w) : wpList P ops Q (o :: rest) a w := by
  have h : ∃ v, ((gate a (guardOf ops o) = true ∧ ∀ w', S w' → (execOp a.eval o).run P w' = .ok (.value v) w') ∨ (gate a (guardOf ops o) = false ∧ v = undef)) ∧ Walk P Q S l (a.put o.dst v) w := by with_unfolding_all exact h
  obtain ⟨v, hv, h⟩ := h
  refine wpList_step fun K hK => ?_
  rw [wanted_eq]
  rcases hv with ⟨hg, hy⟩ | ⟨hg, rfl⟩
  · rw [if_pos hg]
    unfold Oper.wp
    rw [hy w hS, Oper.upon_value]
    exact hK _ _ (ih _ _ h hS)
  · rw [if_neg (by rw [hg]; exact Bool.false_ne_true)]
    exact hK _ _ (ih _ _ h hS)
theorem seq_sound : ∀ (rest : List Oper) (ks : List Nat) (S : World → Prop) (a : Act) (w : World), Walk P Q S (seqOf ops rest ks) a w → S w → wpList P ops Q rest a w
  | [], _, S, a, w, h, hS => by
    have h : S w → Q .normal a w := by with_unfolding_all exact h
    exact h hS
  | o :: rest, [], S, a, w, h, hS => seq_light (fun a w => seq_sound rest [] S a w) h hS
  | o :: rest, 0 :: ks, S, a, w, h, hS => seq_light (fun a w => seq_sound rest ks S a w) h hS
  | o :: rest, (k + 1) :: ks, S, a, w, h, hS => by
    have h : ((gate a (guardOf ops o) = true ∧ (S w → Oper.wp P o a w (fun a' w' => S w' ∧ (S w' → ∃ S' : World → Prop, (∀ z, S' z → S z) ∧ S' w' ∧ Walk P Q S' (seqOf ops rest ks) a' w')) Q)) ∨ (gate a (guardOf ops o) = false ∧ (S w → ∃ S' : World → Prop, (∀ z, S' z → S z) ∧ S' w ∧ Walk P Q S' (seqOf ops rest ks) (a.put o.dst undef) w))) := by with_unfolding_all exact h
    refine wpList_step fun K hK => ?_
    rw [wanted_eq]
    rcases h with ⟨hg, h⟩ | ⟨hg, h⟩
    · rw [if_pos hg]
      refine Oper.wp_mono ?_ (h hS)
      rintro a' w' ⟨hS', hR⟩
      obtain ⟨S', _, hS2, hW⟩ := hR hS'
      exact hK _ _ (seq_sound rest ks S' a' w' hW hS2)
    · rw [if_neg (by rw [hg]; exact Bool.false_ne_true)]
      obtain ⟨S', _, hS2, hW⟩ := h hS
      exact hK _ _ (seq_sound rest ks S' _ w hW hS2)
/-- THE BEGINNING -/
theorem region_seq {S : World → Prop} {id : Nat} {a : Act} {w : World} (ks : List Nat) {l : List (Nat × Option (Option Tmp × Bool) × Oper)} (hl : seqOf ops ops.toList ks = l) (hS : S w) (h : Walk P (NoPanic Q) S l a w) : (Code.region id ops false).wp P Q a w :=
  wp_region_noPanic (wp_region_list (seq_sound ops.toList ks S a w (by rw [hl]; exact h) hS))
end
end Go.Proofs.Ytkenldpmogogaaa.Run
