/- The document's answers for package octet (petasosref03): Text, and the reader. -/
import Derived.Test.YtkenldpmogogaaaRefOctet
import Derived.Test.YtkenldpmogogaaaOctRefPlans
import Derived.Test.YtkenldpmogogaaaRun
set_option maxRecDepth 4000
namespace Go.Proofs.Ytkenldpmogogaaa
open Go.RowKit Mem
set_option linter.unusedSimpArgs false
set_option linter.unusedVariables false
attribute [local irreducible] Go.Calls

theorem sz2 : szN 2 = 2 := by decide
/-- what Text writes of a text of at most 65,535 bytes -/
def txt (l : List Int) : List Int := be 2 l.length ++ l
theorem cut_ne {a : Option Addr} {c p n n' c' b : Nat} (h : (Value.slice a n c).ownBlock ≠ some b) : (Value.slice (cutA a c p 1) n' c').ownBlock ≠ some b := by
  unfold cutA
  rcases a with _ | ad
  · split <;> exact h
  · split
    · exact h
    · intro e
      apply h
      rw [← e]
      simp only [Option.map_some, Addr.add]
      split <;> rfl
end Go.Proofs.Ytkenldpmogogaaa
