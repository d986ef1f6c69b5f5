/- Walk of CircleEnds. -/
import Derived.Test.YtcpfdnndhgofgaaWalk
import Derived.Test.YtcpfdnndhgofgaaRun
import Derived.Test.YtcpfdnndhgofgaaCirclePlans
namespace Go.Proofs.Ytcpfdnndhgofgaa.circleEnds
open Go.RowKit Cir
attribute [local irreducible] Go.Calls
set_option linter.unusedSimpArgs false
set_option maxHeartbeats 1000000

theorem alike (f : Int) (w : World) :
    Calls Try.prog 6 #[.agg #[.int .u32 f, .int .u32 f]] w fun e w' => e = .returned (.bool true) ∧ Below w.heap.size w w' := by
  have b1 := far_bd f f
  have b2 := beh_bd f f
  have e1 : beh f f ≤ beh f f := Int.le_refl _
  have e2 : beh f (IntKind.u32.wrap (f + 1)) ≤ beh f f := by rw [IntKind.wrap_u32]; unfold beh; omega
  have e4 : (beh f f == 4294967296) = true := by unfold beh; simp
  have e5 : (IntKind.u64.wrap (far f f) == (beh f f).tmod 4294967296) = true := by rw [IntWalk.u64_in _ (by omega)]; unfold beh far; simp
  go_enter Try.func6, Try.ntmps6
  go_wp2_with fail
  generalize hW : w.alloc (Obj.cells #[Value.int IntKind.u32 f, Value.int IntKind.u32 f] 24) = W
  have hb0 : Below w.heap.size w W := hW ▸ more (Below.refl _ _) _
  have hlt : w.heap.size < W.heap.size := by rw [← hW]; simp
  have hc0 : W.cell? ⟨w.heap.size, 0, none⟩ = some (.int .u32 f) := by rw [← hW]; simp
  have hc1 : W.cell? ⟨w.heap.size, 1, none⟩ = some (.int .u32 f) := by rw [← hW]; simp
  clear hW
  refine Run.region_walk (S := fun w' => w'.cell? ⟨w.heap.size, 0, none⟩ = some (.int .u32 f) ∧ w'.cell? ⟨w.heap.size, 1, none⟩ = some (.int .u32 f) ∧ Below W.heap.size W w')
    rows2 plan2 (l := ?steps5) (by kernel_rfl) (by kernel_rfl) (by kernel_rfl) (by kernel_rfl) ?written5 ⟨hc0, hc1, Below.drew (Below.refl _ _)⟩ ?onward5
  case written5 =>
    simp only [plan2, Run.stepsOf, Run.stepOf, Run.guardOf, List.getElem?_toArray, List.getElem?_cons_zero, List.getElem?_cons_succ, Option.map_some, Option.map_none, Option.bind_some, Option.toList_some, List.map_cons, List.map_nil, List.cons_append, List.nil_append]
    rfl
  repeat ((first
    | (refine Run.takes (v := ?_) ?_ ?_; rotate_left; (· intro w' hS'; go_simp; (try with_reducible rfl)))
    | (refine Run.takesG (v := ?_) ?_ ?_ ?_; rotate_left; (· simp only [List.getElem?_cons_zero, List.getElem?_cons_succ]); (· intro w' hS'; go_simp; (try with_reducible rfl)))
    | (refine Run.skipsT ?_ ?_; (· simp only [List.getElem?_cons_zero, List.getElem?_cons_succ]))
    | (refine Run.skipsF ?_ ?_; (· simp only [List.getElem?_cons_zero, List.getElem?_cons_succ]))
    | (refine Run.skipsU ?_ ?_; (· simp only [List.getElem?_cons_zero, List.getElem?_cons_succ]))
    | (refine Run.passT ?_ ?_; (· simp only [List.getElem?_cons_zero, List.getElem?_cons_succ]))
    | (refine Run.passF ?_ ?_; (· simp only [List.getElem?_cons_zero, List.getElem?_cons_succ]))
    | (refine Run.passU ?_ ?_; (· simp only [List.getElem?_cons_zero, List.getElem?_cons_succ]))
    | (refine Run.runs ?_
       (first
       | (refine Run.callF 11 (by kernel_rfl) (fun hS => awake_any _) rfl ?_)
       | (refine Run.callG 11 (by kernel_rfl) ?_ (fun hS => awake_any _) rfl ?_; (· simp only [List.getElem?_cons_zero, List.getElem?_cons_succ]))
       | (refine Run.callF 12 (by kernel_rfl) (fun hS => has_yes _ _ _ _ ?_) rfl ?_; (· with_reducible assumption))
       | (refine Run.callG 12 (by kernel_rfl) ?_ (fun hS => has_yes _ _ _ _ ?_) rfl ?_; (· simp only [List.getElem?_cons_zero, List.getElem?_cons_succ]); (· with_reducible assumption))
       | (refine Run.callF 12 (by kernel_rfl) (fun hS => has_no _ _ _ _ ?_) rfl ?_; (· with_reducible assumption))
       | (refine Run.callG 12 (by kernel_rfl) ?_ (fun hS => has_no _ _ _ _ ?_) rfl ?_; (· simp only [List.getElem?_cons_zero, List.getElem?_cons_succ]); (· with_reducible assumption))
       | (refine Run.callF 14 (by kernel_rfl) (fun hS => size_any _ _ _) rfl ?_)
       | (refine Run.callG 14 (by kernel_rfl) ?_ (fun hS => size_any _ _ _) rfl ?_; (· simp only [List.getElem?_cons_zero, List.getElem?_cons_succ]))
       | (refine Run.callF 16 (by kernel_rfl) (fun hS => far_any _ _ _) rfl ?_)
       | (refine Run.callG 16 (by kernel_rfl) ?_ (fun hS => far_any _ _ _) rfl ?_; (· simp only [List.getElem?_cons_zero, List.getElem?_cons_succ]))
       | fail)
       (first
       | (rintro hS e w' ⟨rfl, rfl⟩; refine ⟨_, rfl, hS, ?_⟩)
       | (rintro hS e w' ⟨rfl, hb⟩; refine ⟨_, rfl, kept2 hS hb hlt hlt, ?_⟩)
       | fail))
    | fail); simp only [Act.put, List.setIfInBounds_toArray, List.set_cons_zero, List.set_cons_succ])
  refine Run.ends (fun hS => ?_)
  go_wp2_with fail
  go_ret
  exact ⟨rfl, nest hb0 hS.2.2⟩

theorem other (f t : Int) (bf : 0 ≤ f ∧ f ≤ 4294967295) (bt : 0 ≤ t ∧ t ≤ 4294967295) (h : ¬ f = t) (w : World) :
    Calls Try.prog 6 #[.agg #[.int .u32 f, .int .u32 t]] w fun e w' => e = .returned (.bool true) ∧ Below w.heap.size w w' := by
  have b1 := far_bd f t
  have b2 := beh_bd f t
  have e0 : (f == t) = false := by simpa using h
  have e1 : beh f t ≤ beh f t := Int.le_refl _
  have e2 : beh f (IntKind.u32.wrap (f + 1)) ≤ beh f t := by rw [IntKind.wrap_u32]; unfold beh; omega
  have e3 : beh f t < beh f f := by unfold beh; omega
  have e4 : (beh f t == 4294967296) = false := by
    have : ¬ beh f t = 4294967296 := by unfold beh; omega
    simpa using this
  have e5 : (IntKind.u64.wrap (far f t) == (beh f t).tmod 4294967296) = true := by
    have : far f t = beh f t % 4294967296 := by unfold beh far; omega
    rw [IntWalk.u64_in _ (by omega), IntWalk.rem_in _ _ (by omega), this]; simp
  have e6 : (IntKind.u32.wrap (t + 1) == IntKind.u32.wrap (f + 1)) = false := by
    have : ¬ (t + 1) % 4294967296 = (f + 1) % 4294967296 := by omega
    rw [IntKind.wrap_u32, IntKind.wrap_u32]; simpa using this
  have e7 : beh f t < beh f (IntKind.u32.wrap (t + 1)) := by rw [IntKind.wrap_u32]; unfold beh; omega
  go_enter Try.func6, Try.ntmps6
  go_wp2_with fail
  generalize hW : w.alloc (Obj.cells #[Value.int IntKind.u32 f, Value.int IntKind.u32 t] 24) = W
  have hb0 : Below w.heap.size w W := hW ▸ more (Below.refl _ _) _
  have hlt : w.heap.size < W.heap.size := by rw [← hW]; simp
  have hc0 : W.cell? ⟨w.heap.size, 0, none⟩ = some (.int .u32 f) := by rw [← hW]; simp
  have hc1 : W.cell? ⟨w.heap.size, 1, none⟩ = some (.int .u32 t) := by rw [← hW]; simp
  clear hW
  refine Run.region_walk (S := fun w' => w'.cell? ⟨w.heap.size, 0, none⟩ = some (.int .u32 f) ∧ w'.cell? ⟨w.heap.size, 1, none⟩ = some (.int .u32 t) ∧ Below W.heap.size W w')
    rows2 plan2 (l := ?steps6) (by kernel_rfl) (by kernel_rfl) (by kernel_rfl) (by kernel_rfl) ?written6 ⟨hc0, hc1, Below.drew (Below.refl _ _)⟩ ?onward6
  case written6 =>
    simp only [plan2, Run.stepsOf, Run.stepOf, Run.guardOf, List.getElem?_toArray, List.getElem?_cons_zero, List.getElem?_cons_succ, Option.map_some, Option.map_none, Option.bind_some, Option.toList_some, List.map_cons, List.map_nil, List.cons_append, List.nil_append]
    rfl
  repeat ((first
    | (refine Run.takes (v := ?_) ?_ ?_; rotate_left; (· intro w' hS'; go_simp; (try with_reducible rfl)))
    | (refine Run.takesG (v := ?_) ?_ ?_ ?_; rotate_left; (· simp only [List.getElem?_cons_zero, List.getElem?_cons_succ]); (· intro w' hS'; go_simp; (try with_reducible rfl)))
    | (refine Run.skipsT ?_ ?_; (· simp only [List.getElem?_cons_zero, List.getElem?_cons_succ]))
    | (refine Run.skipsF ?_ ?_; (· simp only [List.getElem?_cons_zero, List.getElem?_cons_succ]))
    | (refine Run.skipsU ?_ ?_; (· simp only [List.getElem?_cons_zero, List.getElem?_cons_succ]))
    | (refine Run.passT ?_ ?_; (· simp only [List.getElem?_cons_zero, List.getElem?_cons_succ]))
    | (refine Run.passF ?_ ?_; (· simp only [List.getElem?_cons_zero, List.getElem?_cons_succ]))
    | (refine Run.passU ?_ ?_; (· simp only [List.getElem?_cons_zero, List.getElem?_cons_succ]))
    | (refine Run.runs ?_
       (first
       | (refine Run.callF 11 (by kernel_rfl) (fun hS => awake_any _) rfl ?_)
       | (refine Run.callG 11 (by kernel_rfl) ?_ (fun hS => awake_any _) rfl ?_; (· simp only [List.getElem?_cons_zero, List.getElem?_cons_succ]))
       | (refine Run.callF 12 (by kernel_rfl) (fun hS => has_yes _ _ _ _ ?_) rfl ?_; (· with_reducible assumption))
       | (refine Run.callG 12 (by kernel_rfl) ?_ (fun hS => has_yes _ _ _ _ ?_) rfl ?_; (· simp only [List.getElem?_cons_zero, List.getElem?_cons_succ]); (· with_reducible assumption))
       | (refine Run.callF 12 (by kernel_rfl) (fun hS => has_no _ _ _ _ ?_) rfl ?_; (· with_reducible assumption))
       | (refine Run.callG 12 (by kernel_rfl) ?_ (fun hS => has_no _ _ _ _ ?_) rfl ?_; (· simp only [List.getElem?_cons_zero, List.getElem?_cons_succ]); (· with_reducible assumption))
       | (refine Run.callF 14 (by kernel_rfl) (fun hS => size_any _ _ _) rfl ?_)
       | (refine Run.callG 14 (by kernel_rfl) ?_ (fun hS => size_any _ _ _) rfl ?_; (· simp only [List.getElem?_cons_zero, List.getElem?_cons_succ]))
       | (refine Run.callF 16 (by kernel_rfl) (fun hS => far_any _ _ _) rfl ?_)
       | (refine Run.callG 16 (by kernel_rfl) ?_ (fun hS => far_any _ _ _) rfl ?_; (· simp only [List.getElem?_cons_zero, List.getElem?_cons_succ]))
       | fail)
       (first
       | (rintro hS e w' ⟨rfl, rfl⟩; refine ⟨_, rfl, hS, ?_⟩)
       | (rintro hS e w' ⟨rfl, hb⟩; refine ⟨_, rfl, kept2 hS hb hlt hlt, ?_⟩)
       | fail))
    | fail); simp only [Act.put, List.setIfInBounds_toArray, List.set_cons_zero, List.set_cons_succ])
  refine Run.ends (fun hS => ?_)
  go_wp2_with fail
  go_ret
  exact ⟨rfl, nest hb0 hS.2.2⟩

theorem walk (f t : Int) (bf : 0 ≤ f ∧ f ≤ 4294967295) (bt : 0 ≤ t ∧ t ≤ 4294967295) (w : World) :
    Calls Try.prog 6 #[.agg #[.int .u32 f, .int .u32 t]] w fun e w' => e = .returned (.bool true) ∧ Below w.heap.size w w' := by
  by_cases h : f = t
  · subst h; exact alike f w
  · exact other f t bf bt h w
end Go.Proofs.Ytcpfdnndhgofgaa.circleEnds
