/- Walk of petasosref01.Others. -/
import Derived.Test.YthdcgobdcdfefaaRefSpans
set_option maxRecDepth 4000
namespace Go.Proofs.Ythdcgobdcdfefaa
open Go.RowKit Cir
set_option linter.unusedSimpArgs false
set_option linter.unusedVariables false
namespace Cir
def maxP (a b : Int) : Int := if a < b then b else a
def stepO (s : List (Int × Int) × Int) (x : Int × Int) : List (Int × Int) × Int := (if s.2 < x.1 then s.1 ++ [(s.2, x.1)] else s.1, maxP s.2 x.2)
def runO (l : List (Int × Int)) : List (Int × Int) × Int := l.foldl stepO ([], 0)
def othP (n : Int) (l : List (Int × Int)) : List (Int × Int) := if (runO l).2 < n then (runO l).1 ++ [((runO l).2, n)] else (runO l).1
theorem runO_take (l : List (Int × Int)) (k : Nat) (h : k < l.length) : runO (l.take (k + 1)) = stepO (runO (l.take k)) (l.getD k (0, 0)) := by
  unfold runO
  rw [List.take_succ_eq_append_getElem h, List.foldl_append]
  simp [h]
theorem runO_bd (l : List (Int × Int)) (hq : ∀ x ∈ l, 0 ≤ x.2 ∧ x.2 ≤ 4294967296) : (runO l).1.length ≤ l.length ∧ 0 ≤ (runO l).2 ∧ (runO l).2 ≤ 4294967296 := by
  have : ∀ (l : List (Int × Int)) (s : List (Int × Int) × Int), (∀ x ∈ l, 0 ≤ x.2 ∧ x.2 ≤ 4294967296) → 0 ≤ s.2 ∧ s.2 ≤ 4294967296 → (l.foldl stepO s).1.length ≤ s.1.length + l.length ∧ 0 ≤ (l.foldl stepO s).2 ∧ (l.foldl stepO s).2 ≤ 4294967296 := by
    intro l
    induction l with
    | nil => intro s _ hs; exact ⟨by simp, hs⟩
    | cons x l ih =>
      intro s hq hs
      have hx := hq x (List.mem_cons_self ..)
      have h1 := ih (stepO s x) (fun y hy => hq y (List.mem_cons_of_mem _ hy)) (by unfold stepO maxP; simp only []; split <;> omega)
      have h2 : (stepO s x).1.length ≤ s.1.length + 1 := by unfold stepO; simp only []; split <;> simp
      simp only [List.foldl_cons, List.length_cons]
      omega
  have h := this l ([], 0) hq (by simp)
  simpa [runO] using h
end Cir

end Go.Proofs.Ythdcgobdcdfefaa
