/- The document's answers for package shelf (petasosref09): Get, Cut. -/
import Derived.Test.YtihfkjodjaoocaaShScan
set_option maxRecDepth 4000
namespace Go.Proofs.Ytihfkjodjaoocaa
open Go.RowKit Mem
set_option linter.unusedSimpArgs false
set_option linter.unusedVariables false
attribute [local irreducible] Go.Calls

theorem key_info : (Try.prog.info? 66).map (·.size) = some 2 := by kernel_rfl
/-- what stands at a key -/
def getE (L : List Ent) (v i : Int) : Ent × Bool := if posE L v i < L.length then (L.getD (posE L v i) e0, true) else (e0, false)
theorem OutAt.turned {B : Nat} {S : Nat → Prop} {w w' : World} {v : Value} {M : List Ent} (h : OutAt B w v M) (t : Turned S w w') (hs : ∀ j, S j → j < B) : OutAt B w' v M := by
  obtain ⟨hs', h1, h2⟩ := h
  exact ⟨hs', h1.turned t (fun g hg hS => by have := (h1.block g hg).1; have := hs g hS; omega), h2.imp fun x y h => h.turned t (fun j hj hS => by have := hs j hS; have hj : B ≤ j := hj; omega)⟩
/-- what is left behind a cut -/
def restL (f t : Int) (L : List Ent) : List Ent := L.filter fun y => !hasV f t y.1
theorem restL_step (f t : Int) {L : List Ent} {k : Nat} (hk : k < L.length) : restL f t (L.take (k + 1)) = restL f t (L.take k) ++ (if hasV f t (L.getD k e0).1 = true then [] else [L.getD k e0]) := by
  unfold restL
  rw [List.take_add_one, List.getElem?_eq_getElem hk, Option.toList_some, List.filter_append, show L.getD k e0 = L[k] by simp [List.getD, hk]]
  cases hq : hasV f t L[k].1 <;> simp [hq]
theorem restL_len (f t : Int) (L : List Ent) : (restL f t L).length ≤ L.length := List.length_filter_le _ _
end Go.Proofs.Ytihfkjodjaoocaa
