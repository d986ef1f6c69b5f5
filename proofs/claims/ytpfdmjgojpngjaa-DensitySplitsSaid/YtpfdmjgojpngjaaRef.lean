/- Walks of the document's own answers for layer 1 (petasosref01): the small ones. -/
import Derived.Test.YtpfdmjgojpngjaaSpan
import Derived.Test.YtpfdmjgojpngjaaRefPlans
set_option maxRecDepth 4000
namespace Go.Proofs.Ytpfdmjgojpngjaa
open Go.RowKit Cir
set_option linter.unusedSimpArgs false
set_option linter.unusedVariables false

theorem rsize_same (f : Int) (w : World) :
    Calls Try.prog 23 #[.agg #[.int .u32 f, .int .u32 f]] w fun e w' => e = .returned (.int .u64 (beh f f)) ∧ Below w.heap.size w w' := by
  go_enter Try.func23, Try.ntmps23
  go_wp2
  go_ret
  exact ⟨by rw [beh_self]; rfl, more (Below.refl _ _) _⟩
theorem rsize_other (f t : Int) (h : far f t ≠ 0) (hne : ¬ f = t) (w : World) :
    Calls Try.prog 23 #[.agg #[.int .u32 f, .int .u32 t]] w fun e w' => e = .returned (.int .u64 (beh f t)) ∧ Below w.heap.size w w' := by
  have e0 : (f == t) = false := by simpa using hne
  have e1 := beh_far f t h
  have b := far_bd f t
  have e2 : far f t = (t - f) % 4294967296 := by unfold far; rfl
  have H1 := e1
  have H2 := e2
  clear e1 e2
  revert H1 H2
  intro H1 H2
  have G1 : (4294967296 : Int) = 4294967296 := rfl
  clear G1
  have K1 : beh f t = (t - f) % 4294967296 := H1.trans H2
  rw [K1]
  clear K1 H1 H2
  go_enter Try.func23, Try.ntmps23
  go_wp2
  go_ret
  exact ⟨rfl, more (Below.refl _ _) _⟩
theorem far_ne (f t : Int) (bf : 0 ≤ f ∧ f ≤ 4294967295) (bt : 0 ≤ t ∧ t ≤ 4294967295) (h : ¬ f = t) : far f t ≠ 0 := by unfold far; omega
theorem rsize_any (f t : Int) (bf : 0 ≤ f ∧ f ≤ 4294967295) (bt : 0 ≤ t ∧ t ≤ 4294967295) (w : World) :
    Calls Try.prog 23 #[.agg #[.int .u32 f, .int .u32 t]] w fun e w' => e = .returned (.int .u64 (beh f t)) ∧ Below w.heap.size w w' := by
  by_cases h : f = t
  · subst h; exact rsize_same f w
  · exact rsize_other f t (far_ne f t bf bt h) h w
theorem rstep_same (f t : Int) (w : World) :
    Calls Try.prog 29 #[.agg #[.int .u32 f, .int .u32 t], .int .u32 f] w fun e w' => e = .returned (.int .u64 (beh f f)) ∧ Below w.heap.size w w' := by
  go_enter Try.func29, Try.ntmps29
  go_wp2
  go_ret
  exact ⟨by rw [beh_self]; rfl, more (Below.refl _ _) _⟩
theorem rstep_other (f t v : Int) (h : far f v ≠ 0) (hne : ¬ v = f) (w : World) :
    Calls Try.prog 29 #[.agg #[.int .u32 f, .int .u32 t], .int .u32 v] w fun e w' => e = .returned (.int .u64 (beh f v)) ∧ Below w.heap.size w w' := by
  have e0 : (v == f) = false := by simpa using hne
  have K1 : beh f v = (v - f) % 4294967296 := (beh_far f v h).trans (by unfold far; rfl)
  rw [K1]
  clear K1 h
  go_enter Try.func29, Try.ntmps29
  go_wp2
  go_ret
  exact ⟨rfl, more (Below.refl _ _) _⟩
theorem rstep_any (f t v : Int) (bf : 0 ≤ f ∧ f ≤ 4294967295) (bv : 0 ≤ v ∧ v ≤ 4294967295) (w : World) :
    Calls Try.prog 29 #[.agg #[.int .u32 f, .int .u32 t], .int .u32 v] w fun e w' => e = .returned (.int .u64 (beh f v)) ∧ Below w.heap.size w w' := by
  by_cases h : v = f
  · subst h; exact rstep_same v t w
  · exact rstep_other f t v (far_ne f v bf bv (fun e => h e.symm)) h w
theorem rhas_any (f t v : Int) (bf : 0 ≤ f ∧ f ≤ 4294967295) (bt : 0 ≤ t ∧ t ≤ 4294967295) (bv : 0 ≤ v ∧ v ≤ 4294967295) (w : World) :
    Calls Try.prog 22 #[.agg #[.int .u32 f, .int .u32 t], .int .u32 v] w fun e w' => e = .returned (.bool (decide (beh f v ≤ beh f t))) ∧ Below w.heap.size w w' := by
  have b1 := beh_bd f v
  have b2 := beh_bd f t
  go_enter Try.func22, Try.ntmps22
  go_wp2_with fail
  generalize hW : w.alloc (Obj.cells #[Value.int IntKind.u32 f, Value.int IntKind.u32 t] 28) = W
  have hb0 : Below w.heap.size w W := hW ▸ more (Below.refl _ _) _
  have hlt : w.heap.size < W.heap.size := by rw [← hW]; simp
  have hc0 : W.cell? ⟨w.heap.size, 0, none⟩ = some (.int .u32 f) := by rw [← hW]; simp
  have hc1 : W.cell? ⟨w.heap.size, 1, none⟩ = some (.int .u32 t) := by rw [← hW]; simp
  clear hW
  refine Run.region_walk (S := fun w' => w'.cell? ⟨w.heap.size, 0, none⟩ = some (.int .u32 f) ∧ w'.cell? ⟨w.heap.size, 1, none⟩ = some (.int .u32 t) ∧ Below W.heap.size W w')
    rhas.rows1 rhas.plan1 (l := ?steps1) (by kernel_rfl) (by kernel_rfl) (by kernel_rfl) (by kernel_rfl) ?written1 ⟨hc0, hc1, Below.drew (Below.refl _ _)⟩ ?onward1
  case written1 =>
    simp only [rhas.plan1, Run.stepsOf, Run.stepOf, Run.guardOf, List.getElem?_toArray, List.getElem?_cons_zero, List.getElem?_cons_succ, Option.map_some, Option.map_none, Option.bind_some, Option.toList_some, List.map_cons, List.map_nil, List.cons_append, List.nil_append, List.append_eq]
    rfl
  repeat ((first
    | (refine Run.takes (v := ?_) ?_ ?_; rotate_left; (· intro w' hS'; go_simp; (try with_reducible rfl)))
    | (refine Run.takesG (v := ?_) ?_ ?_ ?_; rotate_left; (· simp only [List.getElem?_cons_zero, List.getElem?_cons_succ]); (· intro w' hS'; go_simp; (try with_reducible rfl)))
    | (refine Run.skipsT ?_ ?_; (· simp only [List.getElem?_cons_zero, List.getElem?_cons_succ]))
    | (refine Run.skipsF ?_ ?_; (· simp only [List.getElem?_cons_zero, List.getElem?_cons_succ]))
    | (refine Run.skipsU ?_ ?_; (· simp only [List.getElem?_cons_zero, List.getElem?_cons_succ]))
    | (refine Run.passT ?_ ?_; (· simp only [List.getElem?_cons_zero, List.getElem?_cons_succ]))
    | (refine Run.passF ?_ ?_; (· simp only [List.getElem?_cons_zero, List.getElem?_cons_succ]))
    | (refine Run.passU ?_ ?_; (· simp only [List.getElem?_cons_zero, List.getElem?_cons_succ]))
    | (refine Run.runs ?_
       (first
       | (refine Run.callF 29 (by kernel_rfl) (fun hS => rstep_any _ _ _ bf bv _) rfl ?_)
       | (refine Run.callG 29 (by kernel_rfl) ?_ (fun hS => rstep_any _ _ _ bf bv _) rfl ?_; (· simp only [List.getElem?_cons_zero, List.getElem?_cons_succ]))
       | (refine Run.callF 23 (by kernel_rfl) (fun hS => rsize_any _ _ bf bt _) rfl ?_)
       | (refine Run.callG 23 (by kernel_rfl) ?_ (fun hS => rsize_any _ _ bf bt _) rfl ?_; (· simp only [List.getElem?_cons_zero, List.getElem?_cons_succ]))
       | fail)
       (first
       | (rintro hS e w' ⟨rfl, rfl⟩; refine ⟨_, rfl, hS, ?_⟩)
       | (rintro hS e w' ⟨rfl, hb⟩; refine ⟨_, rfl, kept2 hS hb hlt hlt, ?_⟩)
       | fail))
    | fail); simp only [Act.put, List.setIfInBounds_toArray, List.set_cons_zero, List.set_cons_succ])
  refine Run.ends (fun hS => ?_)
  go_wp2_with fail
  go_ret
  exact ⟨rfl, nest hb0 hS.2.2⟩

end Go.Proofs.Ytpfdmjgojpngjaa
