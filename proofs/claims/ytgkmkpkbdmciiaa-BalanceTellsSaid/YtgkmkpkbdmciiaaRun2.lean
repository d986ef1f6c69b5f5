/- A region that draws its order in which, behind some light operations, two come up at once: whichever is first, a plan of its own follows. -/
import Derived.Test.YtgkmkpkbdmciiaaRun
set_option maxRecDepth 4000
namespace Go.Proofs.Ytgkmkpkbdmciiaa.Run
open Go Go.RowKit
set_option linter.unusedVariables false
section
variable {P : Program} {md : Region.Mode} {ops : Array Oper} {Q : Exit → Act → World → Prop} {S : World → Prop}
theorem lsTakes {o : Oper} {l : List (Option (Option Tmp × Bool) × Oper)} {a : Act} {R : Act → Prop} {v : Value} (hy : ∀ w', S w' → (execOp a.eval o).run P w' = .ok (.value v) w') (h : LS P S l (a.put o.dst v) R) : LS P S ((none, o) :: l) a R := ⟨v, .inl ⟨rfl, hy⟩, h⟩
theorem lsEnds {a : Act} {R : Act → Prop} (h : R a) : LS P S [] a R := h
theorem two {gj gk : Option (Option Tmp × Bool)} {oj ok : Oper} {lj lk : List (Nat × Option (Option Tmp × Bool) × Oper)} {a : Act} {w : World} (h1 : Act1 P Q S gj oj a w (Walk P Q S lj)) (h2 : Act1 P Q S gk ok a w (Walk P Q S lk)) : Two P Q gj oj gk ok lj lk S a w := by
  have e : ∀ (g : Option (Option Tmp × Bool)) (o : Oper) (l : List (Nat × Option (Option Tmp × Bool) × Oper)), Act1 P Q S g o a w (Walk P Q S l) → First P Q g o (fun S a w => Walk P Q S l a w) S a w := fun g o l h => by
    have h' := runs (l := l) h
    unfold First
    with_unfolding_all exact h'
  exact ⟨e _ _ _ h1, e _ _ _ h2⟩
def check2L (rows : List (Nat × Nat × Nat)) (is : List Nat) (i j : Nat) (pi pj : List (Nat × Nat)) (n : Nat) : Bool :=
  match lights rows is 0 with
  | some L => check2 rows L i j pi pj n && decide (is.length + n = rows.length)
  | none => false
theorem region_walk2 {id : Nat} {a : Act} {w : World} (rows : List (Nat × Nat × Nat)) (is : List Nat) (i j n : Nat) (pi pj : List (Nat × Nat)) {li lj : List (Nat × Option (Option Tmp × Bool) × Oper)} {ls : List (Option (Option Tmp × Bool) × Oper)} {gi gj : Option (Option Tmp × Bool)} {oi oj : Oper} (hm : P.follows .mixedOrders = true) (hs : Region.noSelect ops = true)
    (hrows : ops.toList.map (rowOf .any ops) = rows) (hp : (wired rows 0 && check2L rows is i j pi pj n) = true)
    (hls : lsOf ops is = ls) (si : stepOf ops 1 i = [(1, gi, oi)]) (sj : stepOf ops 1 j = [(1, gj, oj)]) (h1 : stepsOf ops pi = li) (h2 : stepsOf ops pj = lj) (hS : S w.drew)
    (h : LS P S ls a (fun a' => Two P (NoPanic Q) gi oi gj oj li lj S a' w.drew)) : (Code.region id ops true).wp P Q a w :=
  wp_region_noPanic (wp_region_held_drew hm hS (fun hS' => by
    simp only [Bool.and_eq_true] at hp
    have hlen : rows.length = ops.size := by rw [← hrows]; simp
    obtain ⟨hw, hc⟩ := hp
    unfold check2L at hc
    split at hc
    case h_2 => cases hc
    case h_1 L hL =>
      simp only [Bool.and_eq_true, decide_eq_true_eq] at hc
      obtain ⟨hc, hn⟩ := hc
      refine lights_sound hrows hw hs (fun _ _ _ _ _ h => h) is _ _ 0 L a _ (Met.start ops) hL (by omega) hS' ?_
      refine LR_mono is a (fun a' ha listed' hm' => ?_) (ls_lr hrows is 0 L a hL (by rw [hls]; exact h))
      have hn : ops.size - is.length = n := by omega
      rw [hn]
      exact two_sound hrows hw hs (fun _ _ _ _ _ h => h) si sj h1 h2 hc S listed' a' _ hm' hS' ha))
end
end Go.Proofs.Ytgkmkpkbdmciiaa.Run
