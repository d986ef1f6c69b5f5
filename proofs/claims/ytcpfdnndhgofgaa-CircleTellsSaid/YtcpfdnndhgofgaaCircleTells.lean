/- Walk of CircleTells. -/
import Derived.Test.YtcpfdnndhgofgaaRefMeet
import Derived.Test.YtcpfdnndhgofgaaSame
import Derived.Test.YtcpfdnndhgofgaaMakesMath
namespace Go.Proofs.Ytcpfdnndhgofgaa.circleTells
open Go.RowKit Cir
set_option linter.unusedSimpArgs false
set_option linter.unusedVariables false
attribute [local irreducible] Go.Calls

set_option maxHeartbeats 4000000 in
theorem walk (f t : Int) (bf : 0 ≤ f ∧ f ≤ 4294967295) (bt : 0 ≤ t ∧ t ≤ 4294967295) (g u : Int) (bg : 0 ≤ g ∧ g ≤ 4294967295) (bu : 0 ≤ u ∧ u ≤ 4294967295) (x : Int) (bx : 0 ≤ x ∧ x ≤ 4294967295) (w : World) :
    Calls Try.prog 3 #[.agg #[.int .u32 f, .int .u32 t], .agg #[.int .u32 g, .int .u32 u], .int .u32 x] w fun e w' => e = .returned (.bool true) ∧ Below w.heap.size w w' := by
  go_enter Try.func3, Try.ntmps3
  go_wp2_with fail
  generalize hW : (w.alloc (Obj.cells #[Value.int IntKind.u32 f, Value.int IntKind.u32 t] 24)).alloc (Obj.cells #[Value.int IntKind.u32 g, Value.int IntKind.u32 u] 24) = W
  have hb0 : Below w.heap.size w W := hW ▸ more (more (Below.refl _ _) _) _
  have hc0 : W.cell? ⟨w.heap.size, 0, none⟩ = some (.int .u32 f) := by rw [← hW]; simp
  have hc1 : W.cell? ⟨w.heap.size, 1, none⟩ = some (.int .u32 t) := by rw [← hW]; simp
  have hc2 : W.cell? ⟨w.heap.size + 1, 0, none⟩ = some (.int .u32 g) := by rw [← hW]; simp
  have hc3 : W.cell? ⟨w.heap.size + 1, 1, none⟩ = some (.int .u32 u) := by rw [← hW]; simp
  clear hW
  refine Run.region_walk (S := fun z => z.cell? ⟨w.heap.size, 0, none⟩ = some (.int .u32 f) ∧ z.cell? ⟨w.heap.size, 1, none⟩ = some (.int .u32 t) ∧ z.cell? ⟨w.heap.size + 1, 0, none⟩ = some (.int .u32 g) ∧ z.cell? ⟨w.heap.size + 1, 1, none⟩ = some (.int .u32 u) ∧ Below W.heap.size W z)
    tells.rows1 tells.plan1 (l := ?steps1) (by kernel_rfl) (by kernel_rfl) (by kernel_rfl) (by kernel_rfl) ?written1 ⟨hc0, hc1, hc2, hc3, (Below.refl _ _).drew⟩ ?onward1
  case written1 =>
    simp only [tells.plan1, Run.stepsOf, Run.stepOf, Run.guardOf, List.getElem?_toArray, List.getElem?_cons_zero, List.getElem?_cons_succ, Option.map_some, Option.map_none, Option.bind_some, Option.toList_some, List.map_cons, List.map_nil, List.cons_append, List.nil_append]
    rfl
  repeat ((first
    | (refine Run.takes (v := ?_) ?_ ?_; rotate_left; (· intro w' hS'; go_simp; (try with_reducible rfl)))
    | (refine Run.takesG (v := ?_) ?_ ?_ ?_; rotate_left; (· simp only [List.getElem?_cons_zero, List.getElem?_cons_succ]); (· intro w' hS'; go_simp; (try with_reducible rfl)))
    | (refine Run.skipsT ?_ ?_; (· simp only [List.getElem?_cons_zero, List.getElem?_cons_succ]))
    | (refine Run.skipsF ?_ ?_; (· simp only [List.getElem?_cons_zero, List.getElem?_cons_succ]))
    | (refine Run.skipsU ?_ ?_; (· simp only [List.getElem?_cons_zero, List.getElem?_cons_succ]))
    | (refine Run.passT ?_ ?_; (· simp only [List.getElem?_cons_zero, List.getElem?_cons_succ]))
    | (refine Run.passF ?_ ?_; (· simp only [List.getElem?_cons_zero, List.getElem?_cons_succ]))
    | (refine Run.passU ?_ ?_; (· simp only [List.getElem?_cons_zero, List.getElem?_cons_succ]))
    | (refine Run.runs ?_
       (first
       | (refine Run.callF 11 (by kernel_rfl) (fun hS => awake_any _) rfl ?_)
       | (refine Run.callG 11 (by kernel_rfl) ?_ (fun hS => awake_any _) rfl ?_; (· simp only [List.getElem?_cons_zero, List.getElem?_cons_succ]))
       | (refine Run.callF 12 (by kernel_rfl) (fun hS => has_any f t x _) rfl ?_)
       | (refine Run.callG 12 (by kernel_rfl) ?_ (fun hS => has_any f t x _) rfl ?_; (· simp only [List.getElem?_cons_zero, List.getElem?_cons_succ]))
       | (refine Run.callF 13 (by kernel_rfl) (fun hS => rhas_any f t x bf bt bx _) rfl ?_)
       | (refine Run.callG 13 (by kernel_rfl) ?_ (fun hS => rhas_any f t x bf bt bx _) rfl ?_; (· simp only [List.getElem?_cons_zero, List.getElem?_cons_succ]))
       | (refine Run.callF 14 (by kernel_rfl) (fun hS => size_any f t _) rfl ?_)
       | (refine Run.callG 14 (by kernel_rfl) ?_ (fun hS => size_any f t _) rfl ?_; (· simp only [List.getElem?_cons_zero, List.getElem?_cons_succ]))
       | (refine Run.callF 15 (by kernel_rfl) (fun hS => rsize_any f t bf bt _) rfl ?_)
       | (refine Run.callG 15 (by kernel_rfl) ?_ (fun hS => rsize_any f t bf bt _) rfl ?_; (· simp only [List.getElem?_cons_zero, List.getElem?_cons_succ]))
       | (refine Run.callF 16 (by kernel_rfl) (fun hS => far_any f x _) rfl ?_)
       | (refine Run.callG 16 (by kernel_rfl) ?_ (fun hS => far_any f x _) rfl ?_; (· simp only [List.getElem?_cons_zero, List.getElem?_cons_succ]))
       | (refine Run.callF 17 (by kernel_rfl) (fun hS => rfar_any f x _) rfl ?_)
       | (refine Run.callG 17 (by kernel_rfl) ?_ (fun hS => rfar_any f x _) rfl ?_; (· simp only [List.getElem?_cons_zero, List.getElem?_cons_succ]))
       | (refine Run.callF 18 (by kernel_rfl) (fun hS => middle_any f t _) rfl ?_)
       | (refine Run.callG 18 (by kernel_rfl) ?_ (fun hS => middle_any f t _) rfl ?_; (· simp only [List.getElem?_cons_zero, List.getElem?_cons_succ]))
       | (refine Run.callF 19 (by kernel_rfl) (fun hS => rmid_any f t bf bt _) rfl ?_)
       | (refine Run.callG 19 (by kernel_rfl) ?_ (fun hS => rmid_any f t bf bt _) rfl ?_; (· simp only [List.getElem?_cons_zero, List.getElem?_cons_succ]))
       | fail)
       (first
       | (rintro hS e w' ⟨rfl, rfl⟩; refine ⟨_, rfl, hS, ?_⟩)
       | (rintro hS e w' ⟨rfl, hb⟩; refine ⟨_, rfl, kept4' hS hb, ?_⟩)
       | fail))
    | fail); simp only [Act.put, List.setIfInBounds_toArray, List.set_cons_zero, List.set_cons_succ])
  refine Run.runs (Run.callG 21 (by kernel_rfl) ?_ (fun hS => meet_any f t g u _) rfl ?_)
  · simp only [List.getElem?_cons_zero, List.getElem?_cons_succ]
  rintro hS e z1 ⟨v1, rfl, ho1, hz1⟩
  refine ⟨_, rfl, kept4' hS hz1, ?_⟩
  clear hS
  simp only [Act.put, List.setIfInBounds_toArray, List.set_cons_zero, List.set_cons_succ]
  repeat ((first
    | (refine Run.takes (v := ?_) ?_ ?_; rotate_left; (· intro w' hS'; go_simp; (try with_reducible rfl)))
    | (refine Run.takesG (v := ?_) ?_ ?_ ?_; rotate_left; (· simp only [List.getElem?_cons_zero, List.getElem?_cons_succ]); (· intro w' hS'; go_simp; (try with_reducible rfl)))
    | (refine Run.skipsT ?_ ?_; (· simp only [List.getElem?_cons_zero, List.getElem?_cons_succ]))
    | (refine Run.skipsF ?_ ?_; (· simp only [List.getElem?_cons_zero, List.getElem?_cons_succ]))
    | (refine Run.skipsU ?_ ?_; (· simp only [List.getElem?_cons_zero, List.getElem?_cons_succ]))
    | (refine Run.passT ?_ ?_; (· simp only [List.getElem?_cons_zero, List.getElem?_cons_succ]))
    | (refine Run.passF ?_ ?_; (· simp only [List.getElem?_cons_zero, List.getElem?_cons_succ]))
    | (refine Run.passU ?_ ?_; (· simp only [List.getElem?_cons_zero, List.getElem?_cons_succ]))
    | fail); simp only [Act.put, List.setIfInBounds_toArray, List.set_cons_zero, List.set_cons_succ])
  refine Run.runs (Run.callG 22 (by kernel_rfl) ?_ (fun hS => rmeet_any f t g u bf bt bg bu _) rfl ?_)
  · simp only [List.getElem?_cons_zero, List.getElem?_cons_succ]
  rintro hS e z2 ⟨v2, rfl, ho2, hz2⟩
  refine ⟨_, rfl, kept4' hS hz2, ?_⟩
  clear hS
  simp only [Act.put, List.setIfInBounds_toArray, List.set_cons_zero, List.set_cons_succ]
  have ho3 := ho1.below hz2
  clear ho1 hz1 hz2
  repeat ((first
    | (refine Run.takes (v := ?_) ?_ ?_; rotate_left; (· intro w' hS'; go_simp; (try with_reducible rfl)))
    | (refine Run.takesG (v := ?_) ?_ ?_ ?_; rotate_left; (· simp only [List.getElem?_cons_zero, List.getElem?_cons_succ]); (· intro w' hS'; go_simp; (try with_reducible rfl)))
    | (refine Run.skipsT ?_ ?_; (· simp only [List.getElem?_cons_zero, List.getElem?_cons_succ]))
    | (refine Run.skipsF ?_ ?_; (· simp only [List.getElem?_cons_zero, List.getElem?_cons_succ]))
    | (refine Run.skipsU ?_ ?_; (· simp only [List.getElem?_cons_zero, List.getElem?_cons_succ]))
    | (refine Run.passT ?_ ?_; (· simp only [List.getElem?_cons_zero, List.getElem?_cons_succ]))
    | (refine Run.passF ?_ ?_; (· simp only [List.getElem?_cons_zero, List.getElem?_cons_succ]))
    | (refine Run.passU ?_ ?_; (· simp only [List.getElem?_cons_zero, List.getElem?_cons_succ]))
    | fail); simp only [Act.put, List.setIfInBounds_toArray, List.set_cons_zero, List.set_cons_succ])
  refine Run.runs (Run.callG 20 (by kernel_rfl) ?_ (fun hS => plain_yes _ _ v1 v2 (meetL f t g u) (by have := meet_len f t g u; omega) _ ho3 ho2) rfl ?_)
  · simp only [List.getElem?_cons_zero, List.getElem?_cons_succ]
  rintro hS e z3 ⟨rfl, hz3⟩
  refine ⟨_, rfl, kept4' hS hz3, ?_⟩
  clear hS ho3 ho2
  simp only [Act.put, List.setIfInBounds_toArray, List.set_cons_zero, List.set_cons_succ]
  repeat ((first
    | (refine Run.takes (v := ?_) ?_ ?_; rotate_left; (· intro w' hS'; go_simp; (try with_reducible rfl)))
    | (refine Run.takesG (v := ?_) ?_ ?_ ?_; rotate_left; (· simp only [List.getElem?_cons_zero, List.getElem?_cons_succ]); (· intro w' hS'; go_simp; (try with_reducible rfl)))
    | (refine Run.skipsT ?_ ?_; (· simp only [List.getElem?_cons_zero, List.getElem?_cons_succ]))
    | (refine Run.skipsF ?_ ?_; (· simp only [List.getElem?_cons_zero, List.getElem?_cons_succ]))
    | (refine Run.skipsU ?_ ?_; (· simp only [List.getElem?_cons_zero, List.getElem?_cons_succ]))
    | (refine Run.passT ?_ ?_; (· simp only [List.getElem?_cons_zero, List.getElem?_cons_succ]))
    | (refine Run.passF ?_ ?_; (· simp only [List.getElem?_cons_zero, List.getElem?_cons_succ]))
    | (refine Run.passU ?_ ?_; (· simp only [List.getElem?_cons_zero, List.getElem?_cons_succ]))
    | fail); simp only [Act.put, List.setIfInBounds_toArray, List.set_cons_zero, List.set_cons_succ])
  refine Run.runs (Run.callG 23 (by kernel_rfl) ?_ (fun hS => less_any f t g u _) rfl ?_)
  · simp only [List.getElem?_cons_zero, List.getElem?_cons_succ]
  rintro hS e z1 ⟨v1, rfl, ho1, hz1⟩
  refine ⟨_, rfl, kept4' hS hz1, ?_⟩
  clear hS
  simp only [Act.put, List.setIfInBounds_toArray, List.set_cons_zero, List.set_cons_succ]
  repeat ((first
    | (refine Run.takes (v := ?_) ?_ ?_; rotate_left; (· intro w' hS'; go_simp; (try with_reducible rfl)))
    | (refine Run.takesG (v := ?_) ?_ ?_ ?_; rotate_left; (· simp only [List.getElem?_cons_zero, List.getElem?_cons_succ]); (· intro w' hS'; go_simp; (try with_reducible rfl)))
    | (refine Run.skipsT ?_ ?_; (· simp only [List.getElem?_cons_zero, List.getElem?_cons_succ]))
    | (refine Run.skipsF ?_ ?_; (· simp only [List.getElem?_cons_zero, List.getElem?_cons_succ]))
    | (refine Run.skipsU ?_ ?_; (· simp only [List.getElem?_cons_zero, List.getElem?_cons_succ]))
    | (refine Run.passT ?_ ?_; (· simp only [List.getElem?_cons_zero, List.getElem?_cons_succ]))
    | (refine Run.passF ?_ ?_; (· simp only [List.getElem?_cons_zero, List.getElem?_cons_succ]))
    | (refine Run.passU ?_ ?_; (· simp only [List.getElem?_cons_zero, List.getElem?_cons_succ]))
    | fail); simp only [Act.put, List.setIfInBounds_toArray, List.set_cons_zero, List.set_cons_succ])
  refine Run.runs (Run.callG 24 (by kernel_rfl) ?_ (fun hS => rless_any f t g u bf bt bg bu _) rfl ?_)
  · simp only [List.getElem?_cons_zero, List.getElem?_cons_succ]
  rintro hS e z2 ⟨v2, rfl, ho2, hz2⟩
  refine ⟨_, rfl, kept4' hS hz2, ?_⟩
  clear hS
  simp only [Act.put, List.setIfInBounds_toArray, List.set_cons_zero, List.set_cons_succ]
  have ho3 := ho1.below hz2
  clear ho1 hz1 hz2
  repeat ((first
    | (refine Run.takes (v := ?_) ?_ ?_; rotate_left; (· intro w' hS'; go_simp; (try with_reducible rfl)))
    | (refine Run.takesG (v := ?_) ?_ ?_ ?_; rotate_left; (· simp only [List.getElem?_cons_zero, List.getElem?_cons_succ]); (· intro w' hS'; go_simp; (try with_reducible rfl)))
    | (refine Run.skipsT ?_ ?_; (· simp only [List.getElem?_cons_zero, List.getElem?_cons_succ]))
    | (refine Run.skipsF ?_ ?_; (· simp only [List.getElem?_cons_zero, List.getElem?_cons_succ]))
    | (refine Run.skipsU ?_ ?_; (· simp only [List.getElem?_cons_zero, List.getElem?_cons_succ]))
    | (refine Run.passT ?_ ?_; (· simp only [List.getElem?_cons_zero, List.getElem?_cons_succ]))
    | (refine Run.passF ?_ ?_; (· simp only [List.getElem?_cons_zero, List.getElem?_cons_succ]))
    | (refine Run.passU ?_ ?_; (· simp only [List.getElem?_cons_zero, List.getElem?_cons_succ]))
    | fail); simp only [Act.put, List.setIfInBounds_toArray, List.set_cons_zero, List.set_cons_succ])
  refine Run.runs (Run.callG 20 (by kernel_rfl) ?_ (fun hS => plain_yes _ _ v1 v2 (lessL f t g u) (by have := less_len f t g u; omega) _ ho3 ho2) rfl ?_)
  · simp only [List.getElem?_cons_zero, List.getElem?_cons_succ]
  rintro hS e z3 ⟨rfl, hz3⟩
  refine ⟨_, rfl, kept4' hS hz3, ?_⟩
  clear hS ho3 ho2
  simp only [Act.put, List.setIfInBounds_toArray, List.set_cons_zero, List.set_cons_succ]
  repeat ((first
    | (refine Run.takes (v := ?_) ?_ ?_; rotate_left; (· intro w' hS'; go_simp; (try with_reducible rfl)))
    | (refine Run.takesG (v := ?_) ?_ ?_ ?_; rotate_left; (· simp only [List.getElem?_cons_zero, List.getElem?_cons_succ]); (· intro w' hS'; go_simp; (try with_reducible rfl)))
    | (refine Run.skipsT ?_ ?_; (· simp only [List.getElem?_cons_zero, List.getElem?_cons_succ]))
    | (refine Run.skipsF ?_ ?_; (· simp only [List.getElem?_cons_zero, List.getElem?_cons_succ]))
    | (refine Run.skipsU ?_ ?_; (· simp only [List.getElem?_cons_zero, List.getElem?_cons_succ]))
    | (refine Run.passT ?_ ?_; (· simp only [List.getElem?_cons_zero, List.getElem?_cons_succ]))
    | (refine Run.passF ?_ ?_; (· simp only [List.getElem?_cons_zero, List.getElem?_cons_succ]))
    | (refine Run.passU ?_ ?_; (· simp only [List.getElem?_cons_zero, List.getElem?_cons_succ]))
    | fail); simp only [Act.put, List.setIfInBounds_toArray, List.set_cons_zero, List.set_cons_succ])
  refine Run.ends (fun hS => ?_)
  go_wp2_with fail
  go_ret
  exact ⟨rfl, nest hb0 hS.2.2.2.2⟩
end Go.Proofs.Ytcpfdnndhgofgaa.circleTells
